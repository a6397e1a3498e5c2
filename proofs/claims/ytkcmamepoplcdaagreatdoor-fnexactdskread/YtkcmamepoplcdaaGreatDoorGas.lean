/-
  The program reads a term (polTermRead).
  The program reads a term (polTermRead): the walk.
  The program reads operators (PolRead).
-/
import Derived.Test.YtkcmamepoplcdaaGreatDoorGao
import Derived.Test.YtkcmamepoplcdaaGreatDoorGap
import Derived.Test.YtkcmamepoplcdaaGreatDoorGaq
import Derived.Test.YtkcmamepoplcdaaGreatDoorGal
import Derived.Deep.RegionHeld3
import Derived.Test.YtkcmamepoplcdaaGreatDoorGar
import Derived.Test.YtkcmamepoplcdaaGreatDoorGak
import Derived.RangeFuncBox
namespace Go.Proofs.YtkcmamepoplcdaaGreatDoor
open Go.Shelf Go.RowKit
set_option linter.unusedVariables false
set_option linter.unusedSimpArgs false
theorem pu_snoc (c : UInt8) : ∀ (l : List UInt8) (acc : Nat), Lib.parseUint10 acc (l ++ [c]) = match Lib.parseUint10 acc l with | .ok u => Lib.parseUint10 u [c] | .syntax => .syntax | .range => .range
  | [], acc => rfl
  | x :: l, acc => by
    rw [List.cons_append]
    unfold Lib.parseUint10
    by_cases h : 48 ≤ x.toNat ∧ x.toNat ≤ 57
    · rw [if_pos h, if_pos h]
      by_cases h1 : 1844674407370955162 ≤ acc
      · rw [if_pos h1, if_pos h1]
      · rw [if_neg h1, if_neg h1]
        by_cases h2 : 18446744073709551616 ≤ acc * 10 + (x.toNat - 48)
        · rw [if_pos h2, if_pos h2]
        · rw [if_neg h2, if_neg h2]
          exact pu_snoc c l _
    · rw [if_neg h, if_neg h]
theorem pu_one {u d : Nat} (hu : u < 1000000) (hd : d < 10) : Lib.parseUint10 u [UInt8.ofNat (48 + d)] = .ok (u * 10 + d) := by
  have e : (UInt8.ofNat (48 + d)).toNat = 48 + d := by rw [UInt8.toNat_ofNat']; omega
  unfold Lib.parseUint10
  rw [e, if_pos (by omega), if_neg (by omega), if_neg (by omega)]
  unfold Lib.parseUint10
  congr 1
  omega
theorem pu_dec1 {n : Nat} (h : n < 10) : Lib.parseUint10 0 (Lib.decDigits n) = .ok n := by
  rw [dec_one h]
  have := pu_one (u := 0) (by omega) h
  simpa using this
theorem pu_dec2 {n : Nat} (h : n < 100) : Lib.parseUint10 0 (Lib.decDigits n) = .ok n := by
  by_cases h1 : n < 10
  · exact pu_dec1 h1
  · rw [dec_more h1, pu_snoc, pu_dec1 (n := n / 10) (by omega)]
    show Lib.parseUint10 (n / 10) [UInt8.ofNat (48 + n % 10)] = _
    rw [pu_one (by omega) (by omega)]
    congr 1
    omega
theorem pu_dec3 {n : Nat} (h : n < 1000) : Lib.parseUint10 0 (Lib.decDigits n) = .ok n := by
  by_cases h1 : n < 10
  · exact pu_dec1 h1
  · rw [dec_more h1, pu_snoc, pu_dec2 (n := n / 10) (by omega)]
    show Lib.parseUint10 (n / 10) [UInt8.ofNat (48 + n % 10)] = _
    rw [pu_one (by omega) (by omega)]
    congr 1
    omega
theorem at_plain {d : List UInt8} (hd : ∀ c ∈ d, isD c = true) (h0 : d ≠ []) : Lib.atoiAll d = Lib.signless (Lib.parseUint10 0 d) := by
  cases d with
  | nil => exact absurd rfl h0
  | cons c r =>
    have hc := of_decide_eq_true (hd c (by simp))
    rw [Lib.atoiAll_plain c r (by omega) (by omega)]
    unfold Lib.parseMag
    rw [if_neg (by simp)]
theorem at_bd {d : List UInt8} (hd : ∀ c ∈ d, isD c = true) (h0 : d ≠ []) {v : Int} (h : Lib.atoiAll d = .ok v) : 0 ≤ v ∧ v ≤ 9223372036854775807 := by
  rw [at_plain hd h0] at h
  refine ⟨?_, (Lib.signless_bounds h).2⟩
  cases e : Lib.parseUint10 0 d with
  | ok u =>
    rw [e] at h
    unfold Lib.signless at h
    split at h <;> first | cases h | (rename_i q; cases q; split at h <;> cases h; omega) | skip
  | «syntax» => rw [e] at h; cases h
  | range => rw [e] at h; cases h
theorem at_dec {n : Nat} (h : n ≤ 100) : Lib.atoiAll (Lib.decDigits n) = .ok (n : Int) := by
  have hd : ∀ c ∈ Lib.decDigits n, isD c = true := dec_isD n (by omega)
  rw [at_plain hd (dec_ne n), pu_dec3 (by omega)]
  unfold Lib.signless
  simp
  omega
def cRd (d : List UInt8) : Option Int := if d = [] then some 1 else match Lib.atoiAll d with | .ok v => some v | _ => none
def mRd (r : List UInt8) : Option M := if r = [] then some ⟨0, 0, 0, 0⟩ else if (monR r).2 = true then some (monR r).1 else none
def trmP (s : List UInt8) : T × Bool := match cRd (lead s), mRd (s.drop (lead s).length) with
  | some c, some m => (⟨c, m⟩, decide (trmT ⟨c, m⟩ = s))
  | _, _ => (⟨0, ⟨0, 0, 0, 0⟩⟩, false)
theorem trmP_noC {s : List UInt8} (h : cRd (lead s) = none) : trmP s = (⟨0, ⟨0, 0, 0, 0⟩⟩, false) := by unfold trmP; rw [h]
theorem trmP_noM {s : List UInt8} {c : Int} (hc : cRd (lead s) = some c) (h : mRd (s.drop (lead s).length) = none) : trmP s = (⟨0, ⟨0, 0, 0, 0⟩⟩, false) := by unfold trmP; rw [hc, h]
theorem trmP_is {s : List UInt8} {c : Int} {m : M} (hc : cRd (lead s) = some c) (h : mRd (s.drop (lead s).length) = some m) : trmP s = (⟨c, m⟩, decide (trmT ⟨c, m⟩ = s)) := by unfold trmP; rw [hc, h]
theorem mRd_ok {r : List UInt8} {m : M} (h : mRd r = some m) : M.ok m = true := by
  unfold mRd at h
  split at h
  · cases h; decide
  · split at h
    · rename_i q
      cases h
      rw [monR_spec] at q ⊢
      split at q
      · rename_i z
        rw [if_pos z]
        exact z.2.1
      · cases q
    · cases h
theorem mRd_S {m : M} (h : M.ok m = true) (hne : monS m ≠ []) : mRd (monS m) = some m := by
  have hl : (monS m).length ≤ 40 := by
    have := monT_len h
    rw [monT_is h hne] at this
    omega
  have e : monR (monS m) = (m, true) := by
    rw [monR_spec, trmR_S h hne, if_pos ⟨hl, h, monT_is h hne⟩]
  unfold mRd
  rw [if_neg hne, e, if_pos rfl]
theorem trd_P (s : List UInt8) : TRd s (trmP s).1 (trmP s).2 := by
  refine ⟨fun hb _ => ?_, fun t0 hk hs => ?_⟩
  · unfold trmP at hb ⊢
    split at hb
    · exact of_decide_eq_true hb
    · cases hb
  · have hd : ∀ c ∈ dcD t0.c, isD c = true := fun c hc => dec_isD _ (by have := hk.1.2; omega) c hc
    have hdn : dcD t0.c ≠ [] := dec_ne _
    have hcc : cRd (dcD t0.c) = some t0.c := by
      unfold cRd
      rw [if_neg hdn]
      have := at_dec (n := t0.c.toNat) (by have := hk.1.2; omega)
      unfold dcD
      rw [this]
      show some _ = _
      congr 1
      have := hk.1.1
      omega
    have fin : ∀ c m, cRd (lead s) = some c → mRd (s.drop (lead s).length) = some m → (⟨c, m⟩ : T) = t0 → (trmP s).1 = t0 ∧ (trmP s).2 = true := fun c m h1 h2 h3 => by
      rw [trmP_is h1 h2, h3]
      exact ⟨rfl, decide_eq_true hs⟩
    rcases t0 with ⟨c, m⟩
    simp only at hd hdn hcc hk
    by_cases h0 : m.x = 0 ∧ m.y = 0 ∧ m.d = 0 ∧ m.e = 0
    · have e : s = dcD c := by rw [← hs]; unfold trmT; rw [if_pos h0]
      have hl : lead s = dcD c := by
        rw [e]
        have := lead_app hd (t := []) (fun c r q => by cases q)
        rwa [List.append_nil] at this
      refine fin c m (by rw [hl]; exact hcc) ?_ rfl
      rw [hl, e, List.drop_length]
      unfold mRd
      rw [if_pos rfl]
      rcases m with ⟨x, y, d, z⟩
      obtain ⟨rfl, rfl, rfl, rfl⟩ := h0
      rfl
    · obtain ⟨k, r, e, _⟩ := monS_head hk.2 h0
      have hne : monS m ≠ [] := by rw [e]; simp
      by_cases h1 : c = 1
      · have e2 : s = monS m := by rw [← hs]; unfold trmT; rw [if_neg h0, if_pos h1, monT_is hk.2 hne]
        have hl : lead s = [] := by
          rw [e2]
          exact lead_app (d := []) (fun _ q => by cases q) (monS_noD hk.2)
        refine fin 1 m (by rw [hl]; rfl) ?_ (by rw [h1])
        rw [hl, e2]
        exact mRd_S hk.2 hne
      · have e2 : s = dcD c ++ monS m := by rw [← hs]; unfold trmT; rw [if_neg h0, if_neg h1, monT_is hk.2 hne]
        have hl : lead s = dcD c := by rw [e2]; exact lead_app hd (monS_noD hk.2)
        refine fin c m (by rw [hl]; exact hcc) ?_ rfl
        rw [hl, e2, List.drop_left]
        exact mRd_S hk.2 hne
set_option maxHeartbeats 2000000 in
/-- Atoi of any short text, and which. -/
theorem atoiI2 (l : List UInt8) (hl : l.length ≤ 1000) (hn : l ≠ []) (w : World) (h : Er w) : Calls Tryz.prog 159 #[.string ⟨l.toArray⟩] w fun e w' => Below w.heap.size w w' ∧ ((∃ v, cRd l = some v ∧ e = .returned (.tuple #[.int .i64 v, .nilIface])) ∨ (cRd l = none ∧ ∃ v t N, e = .returned (.tuple #[.int .i64 v, .iface t (.pointer (some ⟨N, 0, none⟩))]))) := by
  have hs : (⟨l.toArray⟩ : ByteArray).size = l.length := ba_size l
  cases hv : Lib.atoiAll l with
  | ok v =>
    refine (Any.strconv_Atoi_ok layC172 ⟨l.toArray⟩ (by rw [hs]; omega) v hv w).mono ?_
    rintro e w' ⟨rfl, hw⟩
    refine ⟨?_, .inl ⟨v, ?_, rfl⟩⟩
    · rcases hw with rfl | ⟨t, rfl⟩
      · exact Below.refl _ _
      · exact bel_bytes w _ t
    · unfold cRd; rw [if_neg hn, hv]
  | «syntax» =>
    obtain ⟨t, p, ht⟩ := h.1
    refine (Any.strconv_Atoi_syntax_var layC172 ⟨l.toArray⟩ (by rw [hs]; omega) hv t p w ht).mono ?_
    rintro e w' ⟨N, rfl, _, _, hb⟩
    exact ⟨hb, .inr ⟨by unfold cRd; rw [if_neg hn, hv], _, _, _, rfl⟩⟩
  | range =>
    obtain ⟨t, p, ht⟩ := h.2
    refine (Any.strconv_Atoi_range_var layC172 ⟨l.toArray⟩ (by rw [hs]; omega) hv t p w ht).mono ?_
    rintro e w' ⟨N, rfl, _, _, hb⟩
    exact ⟨hb, .inr ⟨by unfold cRd; rw [if_neg hn, hv], _, _, _, rfl⟩⟩
end Go.Proofs.YtkcmamepoplcdaaGreatDoor
namespace Go.Proofs.YtkcmamepoplcdaaGreatDoor
open Go.Shelf Go.RowKit
set_option linter.unusedVariables false
set_option linter.unusedSimpArgs false
abbrev C5 (u : World) (b : Nat) (c x y d e : Int) : Prop := u.cell? ⟨b, 0, none⟩ = some (.int .i64 c) ∧ u.cell? ⟨b, 1, none⟩ = some (.int .i64 x) ∧ u.cell? ⟨b, 2, none⟩ = some (.int .i64 y) ∧ u.cell? ⟨b, 3, none⟩ = some (.int .i64 d) ∧ u.cell? ⟨b, 4, none⟩ = some (.int .i64 e)
/-- both boxes of a term's reading. -/
def RTm (w : World) (wr : World) (t : T) : Prop := Below w.heap.size w wr ∧ W5 wr w.heap.size 0 0 0 0 0 ∧ W5 wr (w.heap.size + 1) t.c t.m.x t.m.y t.m.d t.m.e
theorem RTm.below {w wr w' : World} {t : T} (h : RTm w wr t) (hb : Below wr.heap.size wr w') : RTm w w' t := ⟨bel_next h.1 hb, h.2.1.below hb, h.2.2.below hb⟩
theorem rt_new (w : World) : RTm w ((w.alloc (.cells #[.int .i64 0, .int .i64 0, .int .i64 0, .int .i64 0, .int .i64 0] 79)).alloc (.cells #[.int .i64 1, .int .i64 0, .int .i64 0, .int .i64 0, .int .i64 0] 79)) ⟨1, ⟨0, 0, 0, 0⟩⟩ := by
  refine ⟨bel_next (bel_one w _) (bel_one _ _), (W5.box w 79 0 0 0 0 0).below (bel_one _ _), ?_⟩
  have := W5.box (w.alloc (.cells #[.int .i64 0, .int .i64 0, .int .i64 0, .int .i64 0, .int .i64 0] 79)) 79 1 0 0 0 0
  rw [World.size_alloc] at this
  exact this
theorem RTm.setC {w wr : World} {t : T} (h : RTm w wr t) (c : Int) : RTm w (wr.setCell ⟨w.heap.size + 1, 0, none⟩ (.int .i64 c)) ⟨c, t.m⟩ := ⟨h.1.setCell (by simp) _, h.2.1.other (by omega) _, h.2.2.set0 c⟩
theorem RTm.setM {w wr : World} {t : T} (h : RTm w wr t) (x y d e : Int) : RTm w ((((wr.setCell ⟨w.heap.size + 1, 1, none⟩ (.int .i64 x)).setCell ⟨w.heap.size + 1, 2, none⟩ (.int .i64 y)).setCell ⟨w.heap.size + 1, 3, none⟩ (.int .i64 d)).setCell ⟨w.heap.size + 1, 4, none⟩ (.int .i64 e)) ⟨t.c, ⟨x, y, d, e⟩⟩ :=
  ⟨(((h.1.setCell (by simp) _).setCell (by simp) _).setCell (by simp) _).setCell (by simp) _, (((h.2.1.other (by omega) _).other (by omega) _).other (by omega) _).other (by omega) _, (((h.2.2.set1 x).set2 y).set3 d).set4 e⟩
def PtrPost (w : World) (s : List UInt8) (r : Ending) (w' : World) : Prop := r = .returned (.tuple #[.agg #[.int .i64 (trmP s).1.c, .int .i64 (trmP s).1.m.x, .int .i64 (trmP s).1.m.y, .int .i64 (trmP s).1.m.d, .int .i64 (trmP s).1.m.e], .bool (trmP s).2]) ∧ Below w.heap.size w w'
theorem c5_set {u : World} {b b' : Nat} {c x y d e : Int} (h : C5 u b c x y d e) (hn : b' ≠ b) (v0 v1 v2 v3 v4 : Value) : C5 (((((u.setCell ⟨b', 0, none⟩ v0).setCell ⟨b', 1, none⟩ v1).setCell ⟨b', 2, none⟩ v2).setCell ⟨b', 3, none⟩ v3).setCell ⟨b', 4, none⟩ v4) b c x y d e := by
  have ne : ∀ i j, (⟨b', i, none⟩ : Addr) ≠ ⟨b, j, none⟩ := fun i j q => hn (by cases q; rfl)
  refine ⟨?_, ?_, ?_, ?_, ?_⟩
  all_goals (rw [World.cell?_setCell_other _ _ _ _ (ne _ _), World.cell?_setCell_other _ _ _ _ (ne _ _), World.cell?_setCell_other _ _ _ _ (ne _ _), World.cell?_setCell_other _ _ _ _ (ne _ _), World.cell?_setCell_other _ _ _ _ (ne _ _)])
  · exact h.1
  · exact h.2.1
  · exact h.2.2.1
  · exact h.2.2.2.1
  · exact h.2.2.2.2
theorem c5_below {u u' : World} {n b : Nat} {c x y d e : Int} (h : C5 u b c x y d e) (hb : Below n u u') (hn : b < n) : C5 u' b c x y d e :=
  ⟨(hb.cell (p := ⟨b, 0, none⟩) hn).trans h.1, (hb.cell (p := ⟨b, 1, none⟩) hn).trans h.2.1, (hb.cell (p := ⟨b, 2, none⟩) hn).trans h.2.2.1, (hb.cell (p := ⟨b, 3, none⟩) hn).trans h.2.2.2.1, (hb.cell (p := ⟨b, 4, none⟩) hn).trans h.2.2.2.2⟩
theorem bel_of_drew {n : Nat} {u w' : World} (h : Below n u.drew w') : Below n u w' := ⟨h.os, h.tape, h.output, h.size, h.block⟩
theorem c5_drew {u : World} {b : Nat} {c x y d e : Int} (h : C5 u b c x y d e) : C5 u.drew b c x y d e := h
set_option maxRecDepth 100000 in
set_option maxHeartbeats 8000000 in
theorem polTermReadI (s : List UInt8) (hs : s.length ≤ 400) (w : World) (hE : Er w) (hT : Tb w) :
    Calls Tryz.prog 135 #[.string ⟨s.toArray⟩] w (PtrPost w s) := by
  have HE := Hid.mk' hE
  have HT := Hid.mk' hT
  obtain ⟨d, hd⟩ : ∃ d, lead s = d := ⟨_, rfl⟩
  have hdl : d.length ≤ s.length := by rw [← hd]; exact lead_len s
  have hdI : (d.length : Int) ≤ 400 := by omega
  obtain ⟨rs, hrs⟩ : ∃ r, s.drop d.length = r := ⟨_, rfl⟩
  have hrl : rs.length ≤ 400 := by rw [← hrs]; simp; omega
  have hDD : ∀ c ∈ d, isD c = true := by rw [← hd]; exact lead_isD s
  have HR0 := Hid.mk' (rt_new w)
  have hC := leadI s (by omega) (w.alloc (.cells #[.int .i64 0, .int .i64 0, .int .i64 0, .int .i64 0, .int .i64 0] 79))
  rw [hd] at hC
  have HLC := Hid.mk' hC
  have hfr := fun u => str_from (l := s) (k := d.length) hdl u
  rw [hrs] at hfr
  have HNC : Hid (cRd d = none → trmP s = (⟨0, ⟨0, 0, 0, 0⟩⟩, false)) := Hid.mk' (fun h => trmP_noC (by rw [hd]; exact h))
  have HNM : Hid (∀ c, cRd d = some c → mRd rs = none → trmP s = (⟨0, ⟨0, 0, 0, 0⟩⟩, false)) := Hid.mk' (fun c h h2 => trmP_noM (by rw [hd]; exact h) (by rw [hd, hrs]; exact h2))
  have HIS : Hid (∀ c m, cRd d = some c → mRd rs = some m → trmP s = (⟨c, m⟩, decide (trmT ⟨c, m⟩ = s))) := Hid.mk' (fun c m h h2 => trmP_is (by rw [hd]; exact h) (by rw [hd, hrs]; exact h2))
  clear hC hd hrs hE hT
  obtain ⟨PS, hPS⟩ : ∃ Q : Ending → World → Prop, PtrPost w s = Q := ⟨_, rfl⟩
  have HPN : Hid (trmP s = (⟨0, ⟨0, 0, 0, 0⟩⟩, false) → ∀ w', Below w.heap.size w w' → PS (.returned (.tuple #[.agg #[.int .i64 0, .int .i64 0, .int .i64 0, .int .i64 0, .int .i64 0], .bool false])) w') := by
    rw [← hPS]
    exact Hid.mk' (fun h w' hb => ⟨by rw [h], hb⟩)
  have HPY : Hid (∀ c x y d e b, trmP s = (⟨c, ⟨x, y, d, e⟩⟩, b) → ∀ w', Below w.heap.size w w' → PS (.returned (.tuple #[.agg #[.int .i64 c, .int .i64 x, .int .i64 y, .int .i64 d, .int .i64 e], .bool b])) w') := by
    rw [← hPS]
    exact Hid.mk' (fun c x y d e b h w' hb => ⟨by rw [h], hb⟩)
  rw [hPS]
  clear hPS
  go_enter Tryz.func135, Tryz.ntmps135
  go_wp2_with fail
  refine HLC.out.mono ?_
  rintro r w1 ⟨rfl, hw1⟩
  obtain rfl := hw1.symm
  clear hw1
  by_cases hd0 : d = []
  · have hde : d.isEmpty = true := by rw [hd0]; rfl
    have HCC : Hid (cRd d = some ((1 : Nat) : Int)) := by rw [hd0]; exact Hid.mk' rfl
    clear hd0 hDD HLC
    by_cases hr0 : rs = []
    · have hre : rs.isEmpty = true := by rw [hr0]; rfl
      have HMM : Hid (mRd rs = some ⟨0, 0, 0, 0⟩) := by rw [hr0]; exact Hid.mk' rfl
      clear hr0
      have HR1 := HR0
      go_wp2_with fail
      clear HR0
      generalize ((w.alloc (.cells #[.int .i64 0, .int .i64 0, .int .i64 0, .int .i64 0, .int .i64 0] 79)).alloc (.cells #[.int .i64 1, .int .i64 0, .int .i64 0, .int .i64 0, .int .i64 0] 79)) = wa at HR1 ⊢
      have HPT : Hid (∀ u : World, Tb u → _) := Hid.mk' (fun u (hu : Tb u) => polTermTextI 1 (by omega) 0 0 0 0 (by decide) u hu)
      obtain ⟨S, hS⟩ : ∃ S, trmT ⟨((1 : Nat) : Int), ⟨0, 0, 0, 0⟩⟩ = S := ⟨_, rfl⟩
      have HPT2 : Hid (∀ u : World, Tb u → Calls Tryz.prog 62 #[.agg #[.int .i64 ((1 : Nat) : Int), .int .i64 0, .int .i64 0, .int .i64 0, .int .i64 0]] u fun r w' => r = .returned (.string ⟨S.toArray⟩) ∧ Below u.heap.size u w') := by rw [← hS]; exact HPT
      have HIF : Hid (trmP s = (⟨((1 : Nat) : Int), ⟨0, 0, 0, 0⟩⟩, decide (S = s))) := by rw [← hS]; exact Hid.mk' (HIS.out _ _ HCC.out HMM.out)
      clear hS HPT
      obtain ⟨⟨x0, x1, x2, x3, x4⟩, xz⟩ := HR1.out.2.2
      have hSC : C5 wa (w.heap.size + 1) ((1 : Nat) : Int) 0 0 0 0 := ⟨x0, x1, x2, x3, x4⟩
      have HSC := Hid.mk' hSC
      have HBE := Hid.mk' HR1.out.1
      have HTE := Hid.mk' (HT.out.below HR1.out.1)
      have HTZ := Hid.mk' HR1.out.2.1
      have HLT := Hid.mk' HR1.out.2.2.lt
      have hn1 : w.heap.size ≠ w.heap.size + 1 := by omega
      clear x0 x1 x2 x3 x4 xz hSC
      by_cases q : S = s
      · have HPF := Hid.mk' (HPY.out _ _ _ _ _ _ HIF.out)
        rw [decide_eq_true q] at HPF
        clear HIF HIS HNM HNC HPN HPY HCC HMM
        subst q
        obtain ⟨⟨r0, r1, r2, r3, r4⟩, rz⟩ := HTZ.out
        go_region_held3 (fun u => C5 u (w.heap.size + 1) ((1 : Nat) : Int) 0 0 0 0) (first | with_reducible exact HSC.out | with_reducible exact c5_drew HSC.out | with_reducible exact HC7.out | with_reducible exact c5_drew HC7.out | with_reducible exact c5_set HC7.out hn1 _ _ _ _ _ | with_reducible exact c5_drew (c5_set HC7.out hn1 _ _ _ _ _)) (first | (go_at_call 62; refine (HPT2.out _ ?_).mono ?_; (first | with_reducible exact HTE.out | with_reducible exact HTE.out.below (Below.refl _ _).drew); rintro r w7 ⟨rfl, hb7⟩; have HB7 := Hid.mk' hb7; have HZ7 := Hid.mk' (HTZ.out.below (bel_of_drew hb7)); have HC7 := Hid.mk' (c5_below HSC.out (bel_of_drew hb7) HLT.out); obtain ⟨⟨r0, r1, r2, r3, r4⟩, rz⟩ := HZ7.out; clear hb7))
        go_wp2
        refine bodyPost_ret (v := .tuple #[.agg #[.int .i64 ((1 : Nat) : Int), .int .i64 0, .int .i64 0, .int .i64 0, .int .i64 0], .bool true]) (by simp [results, Tryz.results135, go_sem, *]) rfl (HPF.out _ ?_)
        first | exact bel_s5 (bel_next HBE.out (bel_of_drew HB7.out)) (Nat.le_refl _) _ _ _ _ _ | exact (bel_s5 (bel_next HBE.out (bel_of_drew HB7.out)) (Nat.le_refl _) _ _ _ _ _).drew
      · have HPF := Hid.mk' (HPY.out _ _ _ _ _ _ HIF.out)
        rw [decide_eq_false q] at HPF
        have q1 : (S == s) = false := beq_eq_false_iff_ne.2 q
        clear HIF q HIS HNM HNC HPN HPY HCC HMM
        obtain ⟨⟨r0, r1, r2, r3, r4⟩, rz⟩ := HTZ.out
        go_region_held3 (fun u => C5 u (w.heap.size + 1) ((1 : Nat) : Int) 0 0 0 0) (first | with_reducible exact HSC.out | with_reducible exact c5_drew HSC.out | with_reducible exact HC7.out | with_reducible exact c5_drew HC7.out | with_reducible exact c5_set HC7.out hn1 _ _ _ _ _ | with_reducible exact c5_drew (c5_set HC7.out hn1 _ _ _ _ _)) (first | (go_at_call 62; refine (HPT2.out _ ?_).mono ?_; (first | with_reducible exact HTE.out | with_reducible exact HTE.out.below (Below.refl _ _).drew); rintro r w7 ⟨rfl, hb7⟩; have HB7 := Hid.mk' hb7; have HZ7 := Hid.mk' (HTZ.out.below (bel_of_drew hb7)); have HC7 := Hid.mk' (c5_below HSC.out (bel_of_drew hb7) HLT.out); obtain ⟨⟨r0, r1, r2, r3, r4⟩, rz⟩ := HZ7.out; clear hb7))
        go_wp2
        refine bodyPost_ret (v := .tuple #[.agg #[.int .i64 ((1 : Nat) : Int), .int .i64 0, .int .i64 0, .int .i64 0, .int .i64 0], .bool false]) (by simp [results, Tryz.results135, go_sem, *]) rfl (HPF.out _ ?_)
        first | exact bel_s5 (bel_next HBE.out (bel_of_drew HB7.out)) (Nat.le_refl _) _ _ _ _ _ | exact (bel_s5 (bel_next HBE.out (bel_of_drew HB7.out)) (Nat.le_refl _) _ _ _ _ _).drew
    · have hre : rs.isEmpty = false := by cases rs <;> simp at hr0 ⊢
      have HMR := Hid.mk' (fun (u : World) (hu : Er u) => monReadI rs u (by omega) hu)
      obtain ⟨m, ok, hmr⟩ : ∃ m ok, monR rs = (m, ok) := ⟨_, _, rfl⟩
      rw [hmr] at HMR
      have hMN : ok = false → mRd rs = none := fun h => by unfold mRd; rw [if_neg hr0, hmr, h]; rfl
      have hMY : ok = true → mRd rs = some m := fun h => by unfold mRd; rw [if_neg hr0, hmr, h]; rfl
      have HMN := Hid.mk' hMN
      have HMY := Hid.mk' hMY
      clear hr0 hmr hMN hMY
      obtain ⟨x, y, d0, e⟩ := m
      have HR1 := HR0
      go_wp2_with fail
      clear HR0
      generalize ((w.alloc (.cells #[.int .i64 0, .int .i64 0, .int .i64 0, .int .i64 0, .int .i64 0] 79)).alloc (.cells #[.int .i64 1, .int .i64 0, .int .i64 0, .int .i64 0, .int .i64 0] 79)) = wa at HR1 ⊢
      refine (HMR.out wa (HE.out.below HR1.out.1)).mono ?_
      rintro r w3 ⟨rfl, hb3⟩
      have HRw := Hid.mk' (HR1.out.below hb3)
      have HRm := Hid.mk' (HRw.out.below (bel_one w3 (.cells #[.int .i64 x, .int .i64 y, .int .i64 d0, .int .i64 e] 77)))
      have hlt3 : w.heap.size + 1 < w3.heap.size := HRw.out.2.2.lt
      have hne3 : w3.heap.size ≠ w.heap.size + 1 := by omega
      have hne4 : w.heap.size + 1 ≠ w3.heap.size := by omega
      have hne5 : w3.heap.size ≠ w.heap.size := by omega
      have hne6 : w.heap.size ≠ w3.heap.size := by omega
      clear hb3 HMR
      cases ok
      · have HNZ := Hid.mk' (HMN.out rfl)
        obtain ⟨⟨s0, s1, s2, s3, s4⟩, sz⟩ := HRw.out.2.1
        have HBW := Hid.mk' HRw.out.1
        obtain ⟨⟨r0, r1, r2, r3, r4⟩, rz⟩ := HRm.out.2.1
        have HPF := Hid.mk' (HPN.out (HNM.out _ HCC.out HNZ.out))
        have HBE := Hid.mk' HRm.out.1
        clear HNC HNM HIS HPN HPY
        go_wp2
        refine bodyPost_ret (v := .tuple #[.agg #[.int .i64 0, .int .i64 0, .int .i64 0, .int .i64 0, .int .i64 0], .bool false]) (by simp [results, Tryz.results135, go_sem, *]) rfl (HPF.out _ ?_)
        first | exact HBE.out | exact bel_s5 HBE.out (Nat.le_refl _) _ _ _ _ _ | exact (bel_s5 HBW.out (Nat.le_refl _) _ _ _ _ _).alloc (bel_s5 HBW.out (Nat.le_refl _) _ _ _ _ _).size _
      · have HMM := Hid.mk' (HMY.out rfl)
        have HMO := Hid.mk' (mRd_ok HMM.out)
        have HR4 := Hid.mk' (HRm.out.setM x y d0 e)
        obtain ⟨⟨x0, x1, x2, x3, x4⟩, xz⟩ := HRw.out.2.2
        go_wp2_with fail
        clear x0 x1 x2 x3 x4 xz HRm HRw HMN HMY
        have eW : (((((w3.setCell ⟨w.heap.size + 1, 1, none⟩ (.int .i64 x)).setCell ⟨w.heap.size + 1, 2, none⟩ (.int .i64 y)).setCell ⟨w.heap.size + 1, 3, none⟩ (.int .i64 d0)).setCell ⟨w.heap.size + 1, 4, none⟩ (.int .i64 e)).alloc (.cells #[.int .i64 x, .int .i64 y, .int .i64 d0, .int .i64 e] 77)) = (((((w3.alloc (.cells #[.int .i64 x, .int .i64 y, .int .i64 d0, .int .i64 e] 77)).setCell ⟨w.heap.size + 1, 1, none⟩ (.int .i64 x)).setCell ⟨w.heap.size + 1, 2, none⟩ (.int .i64 y)).setCell ⟨w.heap.size + 1, 3, none⟩ (.int .i64 d0)).setCell ⟨w.heap.size + 1, 4, none⟩ (.int .i64 e)) := by go_simp
        rw [← eW] at HR4
        clear eW
        generalize (((((w3.setCell ⟨w.heap.size + 1, 1, none⟩ (.int .i64 x)).setCell ⟨w.heap.size + 1, 2, none⟩ (.int .i64 y)).setCell ⟨w.heap.size + 1, 3, none⟩ (.int .i64 d0)).setCell ⟨w.heap.size + 1, 4, none⟩ (.int .i64 e)).alloc (.cells #[.int .i64 x, .int .i64 y, .int .i64 d0, .int .i64 e] 77)) = w4 at HR4 ⊢
        have HPT : Hid (∀ u : World, Tb u → _) := Hid.mk' (fun u (hu : Tb u) => polTermTextI 1 (by omega) x y d0 e HMO.out u hu)
        obtain ⟨S, hS⟩ : ∃ S, trmT ⟨((1 : Nat) : Int), ⟨x, y, d0, e⟩⟩ = S := ⟨_, rfl⟩
        have HPT2 : Hid (∀ u : World, Tb u → Calls Tryz.prog 62 #[.agg #[.int .i64 ((1 : Nat) : Int), .int .i64 x, .int .i64 y, .int .i64 d0, .int .i64 e]] u fun r w' => r = .returned (.string ⟨S.toArray⟩) ∧ Below u.heap.size u w') := by rw [← hS]; exact HPT
        have HIF : Hid (trmP s = (⟨((1 : Nat) : Int), ⟨x, y, d0, e⟩⟩, decide (S = s))) := by rw [← hS]; exact Hid.mk' (HIS.out _ _ HCC.out HMM.out)
        clear hS HPT
        obtain ⟨⟨x0, x1, x2, x3, x4⟩, xz⟩ := HR4.out.2.2
        have hSC : C5 w4 (w.heap.size + 1) ((1 : Nat) : Int) x y d0 e := ⟨x0, x1, x2, x3, x4⟩
        have HSC := Hid.mk' hSC
        have HBE := Hid.mk' HR4.out.1
        have HTE := Hid.mk' (HT.out.below HR4.out.1)
        have HTZ := Hid.mk' HR4.out.2.1
        have HLT := Hid.mk' HR4.out.2.2.lt
        have hn1 : w.heap.size ≠ w.heap.size + 1 := by omega
        clear x0 x1 x2 x3 x4 xz hSC
        by_cases q : S = s
        · have HPF := Hid.mk' (HPY.out _ _ _ _ _ _ HIF.out)
          rw [decide_eq_true q] at HPF
          clear HIF HIS HNM HNC HPN HPY HCC HMM
          subst q
          obtain ⟨⟨r0, r1, r2, r3, r4⟩, rz⟩ := HTZ.out
          go_region_held3 (fun u => C5 u (w.heap.size + 1) ((1 : Nat) : Int) x y d0 e) (first | with_reducible exact HSC.out | with_reducible exact c5_drew HSC.out | with_reducible exact HC7.out | with_reducible exact c5_drew HC7.out | with_reducible exact c5_set HC7.out hn1 _ _ _ _ _ | with_reducible exact c5_drew (c5_set HC7.out hn1 _ _ _ _ _)) (first | (go_at_call 62; refine (HPT2.out _ ?_).mono ?_; (first | with_reducible exact HTE.out | with_reducible exact HTE.out.below (Below.refl _ _).drew); rintro r w7 ⟨rfl, hb7⟩; have HB7 := Hid.mk' hb7; have HZ7 := Hid.mk' (HTZ.out.below (bel_of_drew hb7)); have HC7 := Hid.mk' (c5_below HSC.out (bel_of_drew hb7) HLT.out); obtain ⟨⟨r0, r1, r2, r3, r4⟩, rz⟩ := HZ7.out; clear hb7))
          go_wp2
          refine bodyPost_ret (v := .tuple #[.agg #[.int .i64 ((1 : Nat) : Int), .int .i64 x, .int .i64 y, .int .i64 d0, .int .i64 e], .bool true]) (by simp [results, Tryz.results135, go_sem, *]) rfl (HPF.out _ ?_)
          first | exact bel_s5 (bel_next HBE.out (bel_of_drew HB7.out)) (Nat.le_refl _) _ _ _ _ _ | exact (bel_s5 (bel_next HBE.out (bel_of_drew HB7.out)) (Nat.le_refl _) _ _ _ _ _).drew
        · have HPF := Hid.mk' (HPY.out _ _ _ _ _ _ HIF.out)
          rw [decide_eq_false q] at HPF
          have q1 : (S == s) = false := beq_eq_false_iff_ne.2 q
          clear HIF q HIS HNM HNC HPN HPY HCC HMM
          obtain ⟨⟨r0, r1, r2, r3, r4⟩, rz⟩ := HTZ.out
          go_region_held3 (fun u => C5 u (w.heap.size + 1) ((1 : Nat) : Int) x y d0 e) (first | with_reducible exact HSC.out | with_reducible exact c5_drew HSC.out | with_reducible exact HC7.out | with_reducible exact c5_drew HC7.out | with_reducible exact c5_set HC7.out hn1 _ _ _ _ _ | with_reducible exact c5_drew (c5_set HC7.out hn1 _ _ _ _ _)) (first | (go_at_call 62; refine (HPT2.out _ ?_).mono ?_; (first | with_reducible exact HTE.out | with_reducible exact HTE.out.below (Below.refl _ _).drew); rintro r w7 ⟨rfl, hb7⟩; have HB7 := Hid.mk' hb7; have HZ7 := Hid.mk' (HTZ.out.below (bel_of_drew hb7)); have HC7 := Hid.mk' (c5_below HSC.out (bel_of_drew hb7) HLT.out); obtain ⟨⟨r0, r1, r2, r3, r4⟩, rz⟩ := HZ7.out; clear hb7))
          go_wp2
          refine bodyPost_ret (v := .tuple #[.agg #[.int .i64 ((1 : Nat) : Int), .int .i64 x, .int .i64 y, .int .i64 d0, .int .i64 e], .bool false]) (by simp [results, Tryz.results135, go_sem, *]) rfl (HPF.out _ ?_)
          first | exact bel_s5 (bel_next HBE.out (bel_of_drew HB7.out)) (Nat.le_refl _) _ _ _ _ _ | exact (bel_s5 (bel_next HBE.out (bel_of_drew HB7.out)) (Nat.le_refl _) _ _ _ _ _).drew
  · have hde : d.isEmpty = false := by cases d <;> simp at hd0 ⊢
    have HAC := Hid.mk' (fun (u : World) (hu : Er u) => atoiI2 d (by omega) hd0 u hu)
    have HAB : Hid (∀ v, cRd d = some v → 0 ≤ v ∧ v ≤ 9223372036854775807) := Hid.mk' (fun v h => by
      unfold cRd at h
      rw [if_neg hd0] at h
      split at h
      · rename_i q; cases h; exact at_bd hDD hd0 q
      · cases h)
    clear hd0 hDD HLC
    have HR1 := HR0
    go_wp2_with fail
    clear HR0
    generalize ((w.alloc (.cells #[.int .i64 0, .int .i64 0, .int .i64 0, .int .i64 0, .int .i64 0] 79)).alloc (.cells #[.int .i64 1, .int .i64 0, .int .i64 0, .int .i64 0, .int .i64 0] 79)) = wa at HR1 ⊢
    refine (HAC.out wa (HE.out.below HR1.out.1)).mono ?_
    rintro r w2 ⟨hb2, hr2⟩
    have HR2 := Hid.mk' (HR1.out.below hb2)
    clear hb2 HR1 HAC
    rcases hr2 with ⟨v, hv, rfl⟩ | ⟨hv, v9, t9, N9, rfl⟩
    · obtain ⟨v0, v1⟩ := HAB.out v hv
      obtain ⟨C, rfl⟩ : ∃ C : Nat, v = (C : Int) := ⟨v.toNat, by omega⟩
      have hC63 : C ≤ 9223372036854775807 := by omega
      have HCC := Hid.mk' hv
      clear hv HAB v0 v1
      by_cases hr0 : rs = []
      · have hre : rs.isEmpty = true := by rw [hr0]; rfl
        have HMM : Hid (mRd rs = some ⟨0, 0, 0, 0⟩) := by rw [hr0]; exact Hid.mk' rfl
        clear hr0
        have HR3 := Hid.mk' (HR2.out.setC (C : Int))
        obtain ⟨⟨x0, x1, x2, x3, x4⟩, xz⟩ := HR2.out.2.2
        go_wp2_with fail
        clear x0 x1 x2 x3 x4 xz HR2
        generalize w2.setCell ⟨w.heap.size + 1, 0, none⟩ (.int .i64 (C : Int)) = wb at HR3 ⊢
        have HPT : Hid (∀ u : World, Tb u → _) := Hid.mk' (fun u (hu : Tb u) => polTermTextI C hC63 0 0 0 0 (by decide) u hu)
        obtain ⟨S, hS⟩ : ∃ S, trmT ⟨((C : Nat) : Int), ⟨0, 0, 0, 0⟩⟩ = S := ⟨_, rfl⟩
        have HPT2 : Hid (∀ u : World, Tb u → Calls Tryz.prog 62 #[.agg #[.int .i64 ((C : Nat) : Int), .int .i64 0, .int .i64 0, .int .i64 0, .int .i64 0]] u fun r w' => r = .returned (.string ⟨S.toArray⟩) ∧ Below u.heap.size u w') := by rw [← hS]; exact HPT
        have HIF : Hid (trmP s = (⟨((C : Nat) : Int), ⟨0, 0, 0, 0⟩⟩, decide (S = s))) := by rw [← hS]; exact Hid.mk' (HIS.out _ _ HCC.out HMM.out)
        clear hS HPT
        obtain ⟨⟨x0, x1, x2, x3, x4⟩, xz⟩ := HR3.out.2.2
        have hSC : C5 wb (w.heap.size + 1) ((C : Nat) : Int) 0 0 0 0 := ⟨x0, x1, x2, x3, x4⟩
        have HSC := Hid.mk' hSC
        have HBE := Hid.mk' HR3.out.1
        have HTE := Hid.mk' (HT.out.below HR3.out.1)
        have HTZ := Hid.mk' HR3.out.2.1
        have HLT := Hid.mk' HR3.out.2.2.lt
        have hn1 : w.heap.size ≠ w.heap.size + 1 := by omega
        clear x0 x1 x2 x3 x4 xz hSC
        by_cases q : S = s
        · have HPF := Hid.mk' (HPY.out _ _ _ _ _ _ HIF.out)
          rw [decide_eq_true q] at HPF
          clear HIF HIS HNM HNC HPN HPY HCC HMM
          subst q
          obtain ⟨⟨r0, r1, r2, r3, r4⟩, rz⟩ := HTZ.out
          go_region_held3 (fun u => C5 u (w.heap.size + 1) ((C : Nat) : Int) 0 0 0 0) (first | with_reducible exact HSC.out | with_reducible exact c5_drew HSC.out | with_reducible exact HC7.out | with_reducible exact c5_drew HC7.out | with_reducible exact c5_set HC7.out hn1 _ _ _ _ _ | with_reducible exact c5_drew (c5_set HC7.out hn1 _ _ _ _ _)) (first | (go_at_call 62; refine (HPT2.out _ ?_).mono ?_; (first | with_reducible exact HTE.out | with_reducible exact HTE.out.below (Below.refl _ _).drew); rintro r w7 ⟨rfl, hb7⟩; have HB7 := Hid.mk' hb7; have HZ7 := Hid.mk' (HTZ.out.below (bel_of_drew hb7)); have HC7 := Hid.mk' (c5_below HSC.out (bel_of_drew hb7) HLT.out); obtain ⟨⟨r0, r1, r2, r3, r4⟩, rz⟩ := HZ7.out; clear hb7))
          go_wp2
          refine bodyPost_ret (v := .tuple #[.agg #[.int .i64 ((C : Nat) : Int), .int .i64 0, .int .i64 0, .int .i64 0, .int .i64 0], .bool true]) (by simp [results, Tryz.results135, go_sem, *]) rfl (HPF.out _ ?_)
          first | exact bel_s5 (bel_next HBE.out (bel_of_drew HB7.out)) (Nat.le_refl _) _ _ _ _ _ | exact (bel_s5 (bel_next HBE.out (bel_of_drew HB7.out)) (Nat.le_refl _) _ _ _ _ _).drew
        · have HPF := Hid.mk' (HPY.out _ _ _ _ _ _ HIF.out)
          rw [decide_eq_false q] at HPF
          have q1 : (S == s) = false := beq_eq_false_iff_ne.2 q
          clear HIF q HIS HNM HNC HPN HPY HCC HMM
          obtain ⟨⟨r0, r1, r2, r3, r4⟩, rz⟩ := HTZ.out
          go_region_held3 (fun u => C5 u (w.heap.size + 1) ((C : Nat) : Int) 0 0 0 0) (first | with_reducible exact HSC.out | with_reducible exact c5_drew HSC.out | with_reducible exact HC7.out | with_reducible exact c5_drew HC7.out | with_reducible exact c5_set HC7.out hn1 _ _ _ _ _ | with_reducible exact c5_drew (c5_set HC7.out hn1 _ _ _ _ _)) (first | (go_at_call 62; refine (HPT2.out _ ?_).mono ?_; (first | with_reducible exact HTE.out | with_reducible exact HTE.out.below (Below.refl _ _).drew); rintro r w7 ⟨rfl, hb7⟩; have HB7 := Hid.mk' hb7; have HZ7 := Hid.mk' (HTZ.out.below (bel_of_drew hb7)); have HC7 := Hid.mk' (c5_below HSC.out (bel_of_drew hb7) HLT.out); obtain ⟨⟨r0, r1, r2, r3, r4⟩, rz⟩ := HZ7.out; clear hb7))
          go_wp2
          refine bodyPost_ret (v := .tuple #[.agg #[.int .i64 ((C : Nat) : Int), .int .i64 0, .int .i64 0, .int .i64 0, .int .i64 0], .bool false]) (by simp [results, Tryz.results135, go_sem, *]) rfl (HPF.out _ ?_)
          first | exact bel_s5 (bel_next HBE.out (bel_of_drew HB7.out)) (Nat.le_refl _) _ _ _ _ _ | exact (bel_s5 (bel_next HBE.out (bel_of_drew HB7.out)) (Nat.le_refl _) _ _ _ _ _).drew
      · have hre : rs.isEmpty = false := by cases rs <;> simp at hr0 ⊢
        have HMR := Hid.mk' (fun (u : World) (hu : Er u) => monReadI rs u (by omega) hu)
        obtain ⟨m, ok, hmr⟩ : ∃ m ok, monR rs = (m, ok) := ⟨_, _, rfl⟩
        rw [hmr] at HMR
        have hMN : ok = false → mRd rs = none := fun h => by unfold mRd; rw [if_neg hr0, hmr, h]; rfl
        have hMY : ok = true → mRd rs = some m := fun h => by unfold mRd; rw [if_neg hr0, hmr, h]; rfl
        have HMN := Hid.mk' hMN
        have HMY := Hid.mk' hMY
        clear hr0 hmr hMN hMY
        obtain ⟨x, y, d0, e⟩ := m
        have HR3 := Hid.mk' (HR2.out.setC (C : Int))
        obtain ⟨⟨x0, x1, x2, x3, x4⟩, xz⟩ := HR2.out.2.2
        go_wp2_with fail
        clear x0 x1 x2 x3 x4 xz HR2
        generalize w2.setCell ⟨w.heap.size + 1, 0, none⟩ (.int .i64 (C : Int)) = wb at HR3 ⊢
        refine (HMR.out wb (HE.out.below HR3.out.1)).mono ?_
        rintro r w3 ⟨rfl, hb3⟩
        have HRw := Hid.mk' (HR3.out.below hb3)
        have HRm := Hid.mk' (HRw.out.below (bel_one w3 (.cells #[.int .i64 x, .int .i64 y, .int .i64 d0, .int .i64 e] 77)))
        have hlt3 : w.heap.size + 1 < w3.heap.size := HRw.out.2.2.lt
        have hne3 : w3.heap.size ≠ w.heap.size + 1 := by omega
        have hne4 : w.heap.size + 1 ≠ w3.heap.size := by omega
        have hne5 : w3.heap.size ≠ w.heap.size := by omega
        have hne6 : w.heap.size ≠ w3.heap.size := by omega
        clear hb3 HMR
        cases ok
        · have HNZ := Hid.mk' (HMN.out rfl)
          obtain ⟨⟨s0, s1, s2, s3, s4⟩, sz⟩ := HRw.out.2.1
          have HBW := Hid.mk' HRw.out.1
          obtain ⟨⟨r0, r1, r2, r3, r4⟩, rz⟩ := HRm.out.2.1
          have HPF := Hid.mk' (HPN.out (HNM.out _ HCC.out HNZ.out))
          have HBE := Hid.mk' HRm.out.1
          clear HNC HNM HIS HPN HPY
          go_wp2
          refine bodyPost_ret (v := .tuple #[.agg #[.int .i64 0, .int .i64 0, .int .i64 0, .int .i64 0, .int .i64 0], .bool false]) (by simp [results, Tryz.results135, go_sem, *]) rfl (HPF.out _ ?_)
          first | exact HBE.out | exact bel_s5 HBE.out (Nat.le_refl _) _ _ _ _ _ | exact (bel_s5 HBW.out (Nat.le_refl _) _ _ _ _ _).alloc (bel_s5 HBW.out (Nat.le_refl _) _ _ _ _ _).size _
        · have HMM := Hid.mk' (HMY.out rfl)
          have HMO := Hid.mk' (mRd_ok HMM.out)
          have HR4 := Hid.mk' (HRm.out.setM x y d0 e)
          obtain ⟨⟨x0, x1, x2, x3, x4⟩, xz⟩ := HRw.out.2.2
          go_wp2_with fail
          clear x0 x1 x2 x3 x4 xz HRm HRw HMN HMY
          have eW : (((((w3.setCell ⟨w.heap.size + 1, 1, none⟩ (.int .i64 x)).setCell ⟨w.heap.size + 1, 2, none⟩ (.int .i64 y)).setCell ⟨w.heap.size + 1, 3, none⟩ (.int .i64 d0)).setCell ⟨w.heap.size + 1, 4, none⟩ (.int .i64 e)).alloc (.cells #[.int .i64 x, .int .i64 y, .int .i64 d0, .int .i64 e] 77)) = (((((w3.alloc (.cells #[.int .i64 x, .int .i64 y, .int .i64 d0, .int .i64 e] 77)).setCell ⟨w.heap.size + 1, 1, none⟩ (.int .i64 x)).setCell ⟨w.heap.size + 1, 2, none⟩ (.int .i64 y)).setCell ⟨w.heap.size + 1, 3, none⟩ (.int .i64 d0)).setCell ⟨w.heap.size + 1, 4, none⟩ (.int .i64 e)) := by go_simp
          rw [← eW] at HR4
          clear eW
          generalize (((((w3.setCell ⟨w.heap.size + 1, 1, none⟩ (.int .i64 x)).setCell ⟨w.heap.size + 1, 2, none⟩ (.int .i64 y)).setCell ⟨w.heap.size + 1, 3, none⟩ (.int .i64 d0)).setCell ⟨w.heap.size + 1, 4, none⟩ (.int .i64 e)).alloc (.cells #[.int .i64 x, .int .i64 y, .int .i64 d0, .int .i64 e] 77)) = w4 at HR4 ⊢
          have HPT : Hid (∀ u : World, Tb u → _) := Hid.mk' (fun u (hu : Tb u) => polTermTextI C hC63 x y d0 e HMO.out u hu)
          obtain ⟨S, hS⟩ : ∃ S, trmT ⟨((C : Nat) : Int), ⟨x, y, d0, e⟩⟩ = S := ⟨_, rfl⟩
          have HPT2 : Hid (∀ u : World, Tb u → Calls Tryz.prog 62 #[.agg #[.int .i64 ((C : Nat) : Int), .int .i64 x, .int .i64 y, .int .i64 d0, .int .i64 e]] u fun r w' => r = .returned (.string ⟨S.toArray⟩) ∧ Below u.heap.size u w') := by rw [← hS]; exact HPT
          have HIF : Hid (trmP s = (⟨((C : Nat) : Int), ⟨x, y, d0, e⟩⟩, decide (S = s))) := by rw [← hS]; exact Hid.mk' (HIS.out _ _ HCC.out HMM.out)
          clear hS HPT
          obtain ⟨⟨x0, x1, x2, x3, x4⟩, xz⟩ := HR4.out.2.2
          have hSC : C5 w4 (w.heap.size + 1) ((C : Nat) : Int) x y d0 e := ⟨x0, x1, x2, x3, x4⟩
          have HSC := Hid.mk' hSC
          have HBE := Hid.mk' HR4.out.1
          have HTE := Hid.mk' (HT.out.below HR4.out.1)
          have HTZ := Hid.mk' HR4.out.2.1
          have HLT := Hid.mk' HR4.out.2.2.lt
          have hn1 : w.heap.size ≠ w.heap.size + 1 := by omega
          clear x0 x1 x2 x3 x4 xz hSC
          by_cases q : S = s
          · have HPF := Hid.mk' (HPY.out _ _ _ _ _ _ HIF.out)
            rw [decide_eq_true q] at HPF
            clear HIF HIS HNM HNC HPN HPY HCC HMM
            subst q
            obtain ⟨⟨r0, r1, r2, r3, r4⟩, rz⟩ := HTZ.out
            go_region_held3 (fun u => C5 u (w.heap.size + 1) ((C : Nat) : Int) x y d0 e) (first | with_reducible exact HSC.out | with_reducible exact c5_drew HSC.out | with_reducible exact HC7.out | with_reducible exact c5_drew HC7.out | with_reducible exact c5_set HC7.out hn1 _ _ _ _ _ | with_reducible exact c5_drew (c5_set HC7.out hn1 _ _ _ _ _)) (first | (go_at_call 62; refine (HPT2.out _ ?_).mono ?_; (first | with_reducible exact HTE.out | with_reducible exact HTE.out.below (Below.refl _ _).drew); rintro r w7 ⟨rfl, hb7⟩; have HB7 := Hid.mk' hb7; have HZ7 := Hid.mk' (HTZ.out.below (bel_of_drew hb7)); have HC7 := Hid.mk' (c5_below HSC.out (bel_of_drew hb7) HLT.out); obtain ⟨⟨r0, r1, r2, r3, r4⟩, rz⟩ := HZ7.out; clear hb7))
            go_wp2
            refine bodyPost_ret (v := .tuple #[.agg #[.int .i64 ((C : Nat) : Int), .int .i64 x, .int .i64 y, .int .i64 d0, .int .i64 e], .bool true]) (by simp [results, Tryz.results135, go_sem, *]) rfl (HPF.out _ ?_)
            first | exact bel_s5 (bel_next HBE.out (bel_of_drew HB7.out)) (Nat.le_refl _) _ _ _ _ _ | exact (bel_s5 (bel_next HBE.out (bel_of_drew HB7.out)) (Nat.le_refl _) _ _ _ _ _).drew
          · have HPF := Hid.mk' (HPY.out _ _ _ _ _ _ HIF.out)
            rw [decide_eq_false q] at HPF
            have q1 : (S == s) = false := beq_eq_false_iff_ne.2 q
            clear HIF q HIS HNM HNC HPN HPY HCC HMM
            obtain ⟨⟨r0, r1, r2, r3, r4⟩, rz⟩ := HTZ.out
            go_region_held3 (fun u => C5 u (w.heap.size + 1) ((C : Nat) : Int) x y d0 e) (first | with_reducible exact HSC.out | with_reducible exact c5_drew HSC.out | with_reducible exact HC7.out | with_reducible exact c5_drew HC7.out | with_reducible exact c5_set HC7.out hn1 _ _ _ _ _ | with_reducible exact c5_drew (c5_set HC7.out hn1 _ _ _ _ _)) (first | (go_at_call 62; refine (HPT2.out _ ?_).mono ?_; (first | with_reducible exact HTE.out | with_reducible exact HTE.out.below (Below.refl _ _).drew); rintro r w7 ⟨rfl, hb7⟩; have HB7 := Hid.mk' hb7; have HZ7 := Hid.mk' (HTZ.out.below (bel_of_drew hb7)); have HC7 := Hid.mk' (c5_below HSC.out (bel_of_drew hb7) HLT.out); obtain ⟨⟨r0, r1, r2, r3, r4⟩, rz⟩ := HZ7.out; clear hb7))
            go_wp2
            refine bodyPost_ret (v := .tuple #[.agg #[.int .i64 ((C : Nat) : Int), .int .i64 x, .int .i64 y, .int .i64 d0, .int .i64 e], .bool false]) (by simp [results, Tryz.results135, go_sem, *]) rfl (HPF.out _ ?_)
            first | exact bel_s5 (bel_next HBE.out (bel_of_drew HB7.out)) (Nat.le_refl _) _ _ _ _ _ | exact (bel_s5 (bel_next HBE.out (bel_of_drew HB7.out)) (Nat.le_refl _) _ _ _ _ _).drew
    · have HNZ := Hid.mk' hv
      clear hv HAB
      have HBW := Hid.mk' HR2.out.1
      obtain ⟨⟨r0, r1, r2, r3, r4⟩, rz⟩ := HR2.out.2.1
      have HPF := Hid.mk' (HPN.out (HNC.out HNZ.out))
      have HBE := Hid.mk' HR2.out.1
      clear HNC HNM HIS HPN HPY
      go_wp2
      refine bodyPost_ret (v := .tuple #[.agg #[.int .i64 0, .int .i64 0, .int .i64 0, .int .i64 0, .int .i64 0], .bool false]) (by simp [results, Tryz.results135, go_sem, *]) rfl (HPF.out _ ?_)
      first | exact HBE.out | exact bel_s5 HBE.out (Nat.le_refl _) _ _ _ _ _ | exact (bel_s5 HBW.out (Nat.le_refl _) _ _ _ _ _).alloc (bel_s5 HBW.out (Nat.le_refl _) _ _ _ _ _).size _
end Go.Proofs.YtkcmamepoplcdaaGreatDoor
namespace Go.Proofs.YtkcmamepoplcdaaGreatDoor
open Go.Shelf Go.RowKit
set_option linter.unusedVariables false
set_option linter.unusedSimpArgs false
/-- the two boxes of what is handed back. -/
def ResP (n : Nat) (v : Value) (ok : Bool) (W : World) : Prop := Boxed W n 22 v ∧ Boxed W (n + 1) 4 (.bool ok)
theorem ResP.below {n : Nat} {v : Value} {ok : Bool} {W W' : World} (h : ResP n v ok W) (hb : Below W.heap.size W W') : ResP n v ok W' := ⟨(hb.block n h.1.lt).trans h.1, (hb.block _ h.2.lt).trans h.2⟩
theorem ResP.set {n : Nat} {v : Value} {ok : Bool} {W : World} (h : ResP n v ok W) (v' : Value) (ok' : Bool) : ResP n v' ok' ((W.setCell ⟨n, 0, none⟩ v').setCell ⟨n + 1, 0, none⟩ (.bool ok')) :=
  ⟨(h.1.set v').other (by omega) _, (h.2.other (by omega) v').set _⟩
theorem ResP.other {n : Nat} {v : Value} {ok : Bool} {W : World} (h : ResP n v ok W) {k : Nat} (hk : n + 1 < k) (u : Value) : ResP n v ok (W.setCell ⟨k, 0, none⟩ u) := ⟨h.1.other (by omega) _, h.2.other (by omega) _⟩
theorem resP_new (w : World) : ResP w.heap.size (.slice none 0 0) false ((w.alloc (.cells #[.slice none 0 0] 22)).alloc (.cells #[.bool false] 4)) := by
  refine ⟨(Boxed.new w _ _).alloc _, ?_⟩
  have := Boxed.new (w.alloc (.cells #[.slice none 0 0] 22)) 4 (.bool false)
  rwa [World.size_alloc] at this
theorem own_blk {X Y : World} {row : Option Nat} {B k : Nat} {cs : Array Value} {t : TypeId} {z : Nat × Nat} (h : X.heap[k]? = some (.cells cs t z)) (hg : X.grownBy Y row) (hr : ∀ r, row = some r → B ≤ r ∧ ∃ o : Obj, X.heap[r]? = some o ∧ o.isCells = false) : Y.heap[k]? = some (.cells cs t z) :=
  (hg.block k (Array.getElem?_eq_some_iff.1 h).1 (fun e => by obtain ⟨_, o, ho, hc⟩ := hr k e.symm; rw [h] at ho; cases ho; cases hc)).trans h
theorem resP_own (n : Nat) (v : Value) (ok : Bool) {β : Type} (B : Nat) : OwnFrom B (fun (_ : β) W => ResP n v ok W) := fun s X Y row hs hg hr => ⟨own_blk hs.1 hg hr, own_blk hs.2 hg hr⟩
theorem resP_cells (tmps : Array Value) {w : World} {n : Nat} {v : Value} {ok : Bool} (h4 : tmps[2]?.getD undef = .pointer (some ⟨n, 0, none⟩)) (h5 : tmps[3]?.getD undef = .pointer (some ⟨n + 1, 0, none⟩)) (h : ResP n v ok w) : (results Tryz.f96 tmps).run Tryz.prog w = .ok (.tuple #[v, .bool ok]) w := by
  have c1 := h.1.cell
  have c2 := h.2.cell
  simp [results, Tryz.results96, go_sem, h4, h5, c1, c2]
def SpW (w : World) (s : List UInt8) : World := ((w.alloc (.cells #[.string ⟨s.toArray⟩] 9)).alloc (.cells #[.string ⟨#[43]⟩] 9)).alloc (.cells #[.int .i64 0] 3)
theorem SpW_bx (w : World) (s : List UInt8) : Bx3 (SpW w s) w.heap.size s := by
  refine ⟨((Boxed.new w _ _).alloc _).alloc _, ?_, ?_⟩
  · have := (Boxed.new (w.alloc (.cells #[.string ⟨s.toArray⟩] 9)) 9 (.string ⟨#[43]⟩)).alloc (.cells #[.int .i64 0] 3)
    rwa [World.size_alloc] at this
  · have := Boxed.new ((w.alloc (.cells #[.string ⟨s.toArray⟩] 9)).alloc (.cells #[.string ⟨#[43]⟩] 9)) 3 (.int .i64 0)
    rwa [World.size_alloc, World.size_alloc] at this
theorem SpW_bel (w : World) (s : List UInt8) : Below w.heap.size w (SpW w s) := (((Below.refl _ _).alloc (Nat.le_refl _) _).alloc (by simp) _).alloc (by simp; omega) _
theorem SpW_size (w : World) (s : List UInt8) : (SpW w s).heap.size = w.heap.size + 3 := by simp [SpW]
set_option maxHeartbeats 1000000 in
theorem splitSeqI (s : List UInt8) (w : World) : Calls Tryz.prog 157 #[.string ⟨s.toArray⟩, .string ⟨#[43]⟩, .int .i64 0] w fun e w' => e = .returned (.func (.func 179) #[] #[.pointer (some ⟨w.heap.size + 1, 0, none⟩), .pointer (some ⟨w.heap.size, 0, none⟩), .pointer (some ⟨w.heap.size + 2, 0, none⟩)]) ∧ w' = SpW w s := by
  go_enter Tryz.func157, Tryz.ntmps157
  go_wp2
  go_ret
  exact ⟨rfl, rfl⟩
set_option maxHeartbeats 1000000 in
theorem splitSeqV (s : List UInt8) (w : World) : Calls Tryz.prog 134 #[.string ⟨s.toArray⟩, .string ⟨#[43]⟩] w fun e w' => e = .returned (.func (.func 179) #[] #[.pointer (some ⟨w.heap.size + 1, 0, none⟩), .pointer (some ⟨w.heap.size, 0, none⟩), .pointer (some ⟨w.heap.size + 2, 0, none⟩)]) ∧ w' = SpW w s := by
  have HC := Hid.mk' (splitSeqI s w)
  go_enter Tryz.func134, Tryz.ntmps134
  go_wp2_with fail
  refine HC.out.mono ?_
  rintro e w1 ⟨rfl, hw⟩
  obtain rfl := hw.symm
  clear hw
  go_wp2
  go_ret
  exact ⟨rfl, rfl⟩
theorem out_none (w : World) (lo : Nat) : Out lo w none 0 [] := by
  obtain ⟨a, cap, e, h⟩ := out_of_owns (L := []) (owns_nil w lo) (by simp)
  cases e
  exact h
theorem resP_new2 (w : World) (ok : Bool) : ResP w.heap.size (.slice none 0 0) ok ((w.alloc (.cells #[.slice none 0 0] 22)).alloc (.cells #[.bool ok] 4)) := by
  refine ⟨(Boxed.new w _ _).alloc _, ?_⟩
  have := Boxed.new (w.alloc (.cells #[.slice none 0 0] 22)) 4 (.bool ok)
  rwa [World.size_alloc] at this
def PrPost (w : World) (s : List UInt8) (r : Ending) (w' : World) : Prop := ∃ a cap, r = .returned (.tuple #[.slice a (polR s).1.length cap, .bool (polR s).2]) ∧ Below w.heap.size w w' ∧ Out w.heap.size w' a cap (polR s).1
theorem pr_no {w : World} {s : List UInt8} {b : Bool} (h : polR s = ([], b)) {w' : World} (hb : Below w.heap.size w w') : PrPost w s (.returned (.tuple #[.slice none 0 0, .bool b])) w' := by
  unfold PrPost
  rw [h]
  exact ⟨none, 0, rfl, hb, out_none _ _⟩
theorem pr_yes {w : World} {s : List UInt8} {ts : List T} (h : polR s = (ts, true)) (hl : ts.length ≤ 1000) {w' : World} {v : Value} (hb : Below w.heap.size w w') (ho : w'.ownsRow w.heap.size 79 5 v ts.length (cellsL ts)) : PrPost w s (.returned (.tuple #[v, .bool true])) w' := by
  unfold PrPost
  rw [h]
  obtain ⟨a, cap, rfl, hout⟩ := out_of_owns ho (by omega)
  exact ⟨a, cap, rfl, hb, hout⟩
set_option maxRecDepth 100000 in
set_option maxHeartbeats 4000000 in
/-- too long, or 0. -/
theorem polReadI0 (s : List UInt8) (hs : s.length ≤ 1048576) (w : World) (h : s = [48] ∨ 400 < s.length) :
    Calls Tryz.prog 96 #[.string ⟨s.toArray⟩] w (PrPost w s) := by
  have hR0 := resP_new w
  have c1 := hR0.1.cell
  have c2 := hR0.2.cell
  have z1 := hR0.1.frozen
  have z2 := hR0.2.frozen
  clear hR0
  by_cases hl : 400 < s.length
  · have hlI : (400 : Int) < (s.length : Int) := by omega
    have HN := Hid.mk' (fun w' hb => pr_no (w := w) (w' := w') (polR_no (s := s) (by intro q; rw [q] at hl; simp at hl) (fun q => by omega)) hb)
    obtain ⟨PS, hPS⟩ : ∃ Q : Ending → World → Prop, PrPost w s = Q := ⟨_, rfl⟩
    rw [hPS] at HN ⊢
    clear hPS
    refine (callsIn_wide (n := 9)).1 ?_
    refine callsIn_of_wp_marks Tryz.func96 rfl trivial ?_ rfl
    simp only [Tryz.ntmps96, List.size_toArray, List.length_cons, List.length_nil, Nat.reduceAdd, Nat.reduceSub, Array.replicate_succ, Array.replicate_zero, List.push_toArray, List.append_toArray, List.nil_append, List.cons_append]
    gi_wp2
    exact ⟨_, resP_cells _ rfl rfl (resP_new2 w false), HN.out _ (bel_two w _ _)⟩
  · have h0 := h.resolve_right hl
    subst h0
    have HN := Hid.mk' (fun w' hb => pr_no (w := w) (w' := w') polR_zero hb)
    obtain ⟨PS, hPS⟩ : ∃ Q : Ending → World → Prop, PrPost w [48] = Q := ⟨_, rfl⟩
    rw [hPS] at HN ⊢
    clear hPS
    refine (callsIn_wide (n := 9)).1 ?_
    refine callsIn_of_wp_marks Tryz.func96 rfl trivial ?_ rfl
    simp only [Tryz.ntmps96, List.size_toArray, List.length_cons, List.length_nil, Nat.reduceAdd, Nat.reduceSub, Array.replicate_succ, Array.replicate_zero, List.push_toArray, List.append_toArray, List.nil_append, List.cons_append]
    gi_wp2
    exact ⟨_, resP_cells _ rfl rfl (resP_new2 w true), HN.out _ (bel_two w _ _)⟩
end Go.Proofs.YtkcmamepoplcdaaGreatDoor
