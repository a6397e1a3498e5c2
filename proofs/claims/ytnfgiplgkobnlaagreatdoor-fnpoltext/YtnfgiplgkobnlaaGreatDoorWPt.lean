/-
  The walk of FnPolText: whatever the codes, it comes out true, and nothing that was there is turned.
-/
import Derived.Test.YtnfgiplgkobnlaaGreatDoorGaq
import Derived.Test.YtnfgiplgkobnlaaGreatDoorGat
import Derived.Test.YtnfgiplgkobnlaaGreatDoorGau
import Derived.Test.YtnfgiplgkobnlaaGreatDoorGaj
import Derived.Test.YtnfgiplgkobnlaaGreatDoorGag
import Derived.Test.YtnfgiplgkobnlaaGreatDoorGak
import Derived.Test.YtnfgiplgkobnlaaGreatDoorGao
namespace Go.Proofs.YtnfgiplgkobnlaaGreatDoor
open Go.Shelf Go.RowKit
set_option linter.unusedVariables false
set_option linter.unusedSimpArgs false
theorem okAt_congr {f g : Nat → T} {n i : Nat} (h : ∀ i, i < n → f i = g i) (hi : i < n) : okAt f i = okAt g i := by
  unfold okAt
  rw [h i hi]
  by_cases e : i = 0
  · subst e; simp
  · rw [h (i - 1) (by omega)]
theorem polOk_congr {f g : Nat → T} {n : Nat} (h : ∀ i, i < n → f i = g i) : polOk n f = polOk n g := by
  unfold polOk
  congr 1
  apply propext
  exact ⟨fun q => ⟨q.1, fun i hi => by rw [← okAt_congr h hi]; exact q.2 i hi⟩, fun q => ⟨q.1, fun i hi => by rw [okAt_congr h hi]; exact q.2 i hi⟩⟩
theorem wrds_congr {f g : Nat → T} : ∀ {n : Nat}, (∀ i, i < n → f i = g i) → wrds f n = wrds g n
  | 0, _ => rfl
  | n + 1, h => by
    unfold wrds
    rw [wrds_congr (n := n) (fun i hi => h i (by omega)), h n (by omega)]
theorem polT_congr {f g : Nat → T} {n : Nat} (h : ∀ i, i < n → f i = g i) : polT n f = polT n g := by
  unfold polT
  rw [polOk_congr h, ← jn_wrds, ← jn_wrds, wrds_congr h]
theorem trmT_ne {t : T} (h : okc t) : trmT t ≠ [] := by
  unfold trmT
  split
  · exact dec_ne _
  · rename_i h0
    split
    · exact (monT_not1 h.2 h0).2
    · intro e
      exact dec_ne _ (List.append_eq_nil_iff.1 e).1
theorem polT_ne {n : Nat} {f : Nat → T} (h : polOk n f = true) : polT n f ≠ [] := by
  by_cases h0 : n = 0
  · rw [polT_zero h h0]; simp
  · rw [polT_is h h0]
    obtain ⟨k, rfl⟩ : ∃ k, n = k + 1 := ⟨n - 1, by omega⟩
    unfold jnT
    intro e
    exact trmT_ne ((polOk_is h).2 k (by omega)) (List.append_eq_nil_iff.1 e).2
theorem polR_text {s : List UInt8} {q : List T} (h : polR s = (q, true)) : polT q.length (lf q) = s := by
  unfold polR at h
  split at h
  · rename_i e
    cases h
    rw [e]
    rfl
  · split at h
    · rename_i z
      cases h
      exact z.2.2
    · cases h
/-- an operator is read back out of its text. -/
theorem polR_T {n : Nat} {f : Nat → T} (h : polOk n f = true) (hl : (polT n f).length ≤ 400) : ∃ L, polR (polT n f) = (L, true) ∧ L.length = n ∧ ∀ i, i < n → lf L i = f i := by
  by_cases h0 : n = 0
  · subst h0
    rw [polT_zero h rfl, polR_zero]
    exact ⟨[], rfl, rfl, fun i hi => by omega⟩
  · have hk := (polOk_is h).2
    have hc := cut_polT h h0
    have hw : ∀ i, i < n → (wT (polT n f))[i]? = some (f i) := fun i hi => by
      unfold wT
      rw [hc, List.getElem?_map, wrds_at f hi]
      show some (trmR (trmT (f i))) = _
      rw [trmR_trm (hk i hi).1.1 (hk i hi).1.2 (hk i hi).2]
    have hwl : (wT (polT n f)).length = n := by rw [wT_len, hc, wrds_len]
    have hf : ∀ i, i < n → lf (wT (polT n f)) i = f i := fun i hi => lf_at (hw i hi)
    have hne : polT n f ≠ [48] := fun e => by
      have h2 := hw 0 (by omega)
      rw [e] at h2
      have h3 : (wT [48])[0]? = some ⟨0, ⟨0, 0, 0, 0⟩⟩ := by kernel_rfl
      rw [h3] at h2
      have := (hk 0 (by omega)).1.1
      rw [← Option.some.inj h2] at this
      exact absurd this (by decide)
    refine ⟨wT (polT n f), polR_yes hne hl ?_ ?_, hwl, hf⟩
    · rw [hwl, polOk_congr hf]; exact h
    · rw [hwl, polT_congr hf]
theorem one_text : polT 1 (fun _ => (⟨1, ⟨0, 0, 0, 0⟩⟩ : T)) = [49] := by decide +kernel
set_option maxRecDepth 100000 in
set_option maxHeartbeats 1000000 in
theorem drawPolText (w : World) (a : Option Addr) (len cap : Nat) (h : Src w a len cap) :
    Calls Tryz.prog 5 #[.slice a len cap] w fun e w' => ∃ (a' : Option Addr) (m cap' : Nat) (f : Nat → T), e = .returned (.slice a' m cap') ∧ Rd w' a' m cap' f ∧ m ≤ 5 ∧ Below w.heap.size w w' := by
  go_enter Tryz.func5, Tryz.ntmps5
  go_wp2_with fail
  refine (open_any _ _ _ _ h).mono ?_
  rintro e w1 ⟨rfl, r1, b1⟩
  clear h
  go_wp2_with fail
  refine (any_any _ _ _ _ r1 (by omega) (by omega) (by omega)).mono ?_
  rintro e w2 ⟨a', m, cap', f, q, rfl, hrd, hm, _, hq, r2, s2⟩
  have bz2 := s2.below b1 (by omega) b1.size
  clear r1 r2 s2 b1
  go_wp2
  go_ret
  exact ⟨a', m, cap', f, rfl, hrd, hm, bz2⟩
theorem rdr_bel {w w' : World} {B p : Nat} (h : Rdr w B p) (hb : Below w.heap.size w w') : Rdr w' B p := by
  have hlt := h.lt
  obtain ⟨hc1, hf, a, len, cap, hc0, hl, h0⟩ := h
  have he := hb.block B hlt
  refine ⟨(World.cell?_of_block (w := w) (a := ⟨B, 1, none⟩) he).trans hc1, (World.frozen?_of_block (w := w) (a := ⟨B, 1, none⟩) he).trans hf, a, len, cap, (World.cell?_of_block (w := w) (a := ⟨B, 0, none⟩) he).trans hc0, hl, ?_⟩
  rcases h0 with h0 | ⟨bb, off, z, rfl, hbb, hz, z0, z1⟩
  · exact .inl h0
  · exact .inr ⟨bb, off, z, rfl, hbb, fun i hi => (World.cell?_of_block (w := w) (a := ⟨bb, off + i, none⟩) (hb.block bb (by omega))).trans (hz i hi), z0, z1⟩
theorem polT_len (n : Nat) (f : Nat → T) : (polT n f).length ≤ 17 * n + 1 := by
  cases h : polOk n f
  · rw [polT_no h]; simp
  · by_cases h0 : n = 0
    · rw [polT_zero h h0]; simp
    · rw [polT_is h h0]
      have := jnT_len n (fun i hi => (polOk_is h).2 i hi)
      omega
set_option maxRecDepth 100000 in
set_option maxHeartbeats 1000000 in
theorem drawPolRead (w : World) (a : Option Addr) (len cap : Nat) (h : Src w a len cap) :
    Calls Tryz.prog 7 #[.slice a len cap] w fun e w' => ∃ l : List UInt8, e = .returned (.string ⟨l.toArray⟩) ∧ l.length ≤ 1000 ∧ Below w.heap.size w w' := by
  go_enter Tryz.func7, Tryz.ntmps7
  go_wp2_with fail
  refine (open_any _ _ _ _ h).mono ?_
  rintro e w1 ⟨rfl, r1, b1⟩
  clear h
  go_wp2_with fail
  refine (pol_any _ _ _ 4 r1 (by omega) (by omega) (by omega)).mono ?_
  rintro e w2 ⟨v, PL, q, rfl, hown, hPL, _, hq, r2, s2⟩
  have bz2 := s2.below b1 (by omega) b1.size
  obtain ⟨a5, c5, rfl, hout⟩ := out_of_owns hown (by omega)
  have HT := Hid.mk' (polTextS _ _ _ _ _ hout.1)
  obtain ⟨l, hl⟩ : ∃ l, polT PL.length (lf PL) = l := ⟨_, rfl⟩
  have hll : l.length ≤ 900 := by rw [← hl]; exact Nat.le_trans (polT_len _ _) (by omega)
  rw [hl] at HT
  clear r1 s2 b1 hl hown hout
  go_wp2_with fail
  refine HT.out.mono ?_
  rintro e w3 ⟨rfl, hb3⟩
  have r3 : Rdr w3 w.heap.size q := rdr_bel r2 hb3
  have bz3 := bz2.trans (hb3.mono bz2.size)
  clear r2 bz2 hb3 HT
  go_wp2_with fail
  refine (maybe_any _ _ _ _ r3 (by omega) (by omega)).mono ?_
  rintro e w4 ⟨l', q', rfl, hl', hq', r4, s4⟩
  have bz4 := s4.below bz3 (by omega) bz3.size
  clear r3 r4 bz3 s4
  go_wp2
  go_ret
  exact ⟨l', rfl, by omega, bz4⟩
set_option maxRecDepth 100000 in
set_option maxHeartbeats 8000000 in
theorem walk_FnPolText (w : World) (a0 : Option Addr) (len0 cap0 : Nat) (a1 : Option Addr) (len1 cap1 : Nat) (s0 : Src w a0 len0 cap0) (s1 : Src w a1 len1 cap1) (hE : Er w) (hT : Tb w) :
    Calls Tryz.prog 3 #[.slice a0 len0 cap0, .slice a1 len1 cap1] w fun e w' => e = .returned (.bool true) ∧ Below w.heap.size w w' := by
  by_cases c0 : (1048576 : Int) < (len0 : Int)
  · go_enter Tryz.func3, Tryz.ntmps3
    go_wp2
    go_ret
    exact ⟨rfl, Below.refl _ _⟩
  by_cases c1 : (1048576 : Int) < (len1 : Int)
  · go_enter Tryz.func3, Tryz.ntmps3
    go_wp2
    go_ret
    exact ⟨rfl, Below.refl _ _⟩
  have HE := Hid.mk' hE
  have HT := Hid.mk' hT
  have HS1 := Hid.mk' s1
  go_enter Tryz.func3, Tryz.ntmps3
  go_wp2_with fail
  refine (drawPolText _ _ _ _ s0).mono ?_
  rintro e w1 ⟨pa, m, pc, f, rfl, hrd, hm, b1⟩
  have Z1 := Hid.mk' b1
  have P1 := Hid.mk' hrd
  clear b1 hrd s0 s1 hE hT
  obtain ⟨S, hS⟩ : ∃ S, polT m f = S := ⟨_, rfl⟩
  have HSE := Hid.mk' hS
  have hSl : S.length ≤ 1000 := by rw [← hS]; exact Nat.le_trans (polT_len _ _) (by omega)
  obtain ⟨ok, hok⟩ : ∃ b, polOk m f = b := ⟨_, rfl⟩
  have HOK := Hid.mk' hok
  have TI := Hid.mk' (fun u h k => polTextI u pa m pc f h k)
  have TS := Hid.mk' (fun u h => polTextS u pa m pc f h)
  have OKI := Hid.mk' (fun u h => polOkI u pa m pc f h)
  rw [hS] at TI TS
  rw [hok] at OKI
  clear hS hok
  go_wp2_with fail
  refine (TI.out _ P1.out (HT.out.below Z1.out)).mono ?_
  rintro r w2 ⟨rfl, b2⟩
  have Z2 := Hid.mk' (bel_next Z1.out b2)
  have P2 := Hid.mk' (P1.out.below b2)
  clear b2 Z1 P1 TI
  go_wp2_with fail
  refine (drawPolRead _ _ _ _ (HS1.out.below Z2.out)).mono ?_
  rintro e w3 ⟨t, rfl, hl, b3⟩
  have Z3 := Hid.mk' (bel_next Z2.out b3)
  have P3 := Hid.mk' (P2.out.below b3)
  clear b3 Z2 P2
  obtain ⟨R, hR⟩ : ∃ R, polR t = R := ⟨_, rfl⟩
  have HR := Hid.mk' hR
  have RI := Hid.mk' (fun u h k => polReadI t (by omega) u h k)
  have RS := Hid.mk' (fun u => polReadS t (by omega) u)
  rw [hR] at RI RS
  clear hR
  obtain ⟨Q, b⟩ := R
  dsimp only at RI RS
  go_wp2_with fail
  refine (RI.out _ (HE.out.below Z3.out) (HT.out.below Z3.out)).mono ?_
  rintro r w4 ⟨qa, qc, rfl, b4, ho⟩
  have Z4 := Hid.mk' (bel_next Z3.out b4)
  have P4 := Hid.mk' (P3.out.below b4)
  have Q4 := Hid.mk' ho.1
  clear b4 Z3 P3 ho RI
  go_wp2_with fail
  refine (RS.out _).mono ?_
  rintro r w5 ⟨wa, wc, rfl, b5, ho⟩
  have Z5 := Hid.mk' (bel_next Z4.out b5)
  have P5 := Hid.mk' (P4.out.below b5)
  have Q5 := Hid.mk' (Q4.out.below b5)
  have W5' := Hid.mk' ho.1
  clear b5 Z4 P4 Q4 ho RS
  go_wp2_with fail
  refine (TS.out _ P5.out).mono ?_
  rintro r w6 ⟨rfl, b6⟩
  have Z6 := Hid.mk' (bel_next Z5.out b6)
  have P6 := Hid.mk' (P5.out.below b6)
  have Q6 := Hid.mk' (Q5.out.below b6)
  have W6 := Hid.mk' (W5'.out.below b6)
  clear b6 Z5 P5 Q5 W5' TS
  go_wp2_with fail
  refine (heSameT _ _ _ _ _ _ _ _ _ Q6.out W6.out).mono ?_
  rw [termsEq_same]
  rintro r w7 ⟨rfl, b7⟩
  have Z7 := Hid.mk' (bel_next Z6.out b7)
  have P7 := Hid.mk' (P6.out.below b7)
  have Q7 := Hid.mk' (Q6.out.below b7)
  clear b7 Z6 P6 Q6 W6
  -- behind both readings: the rest, from a world in which p stands
  have fin : ∀ (w8 : World), Below w.heap.size w w8 → Rd w8 pa m pc f → True := fun _ _ _ => trivial
  clear fin
  cases b
  · cases ok
    · have e0 : S = [] := by rw [← HSE.out, polT_no HOK.out]
      subst e0
      go_wp2_with fail
      refine (OKI.out _ P7.out).mono ?_
      rintro r w8 ⟨rfl, b8⟩
      have Z8 := Hid.mk' (bel_next Z7.out b8)
      clear b8 OKI
      go_wp2_with fail
      refine (heOneT _).mono ?_
      rintro r w9 ⟨rfl, hw9⟩
      have hb9 := bel_one w8 (.cells #[.int .i64 1, .int .i64 0, .int .i64 0, .int .i64 0, .int .i64 0] 45)
      have hk9 := heap_alloc_new w8 (.cells #[.int .i64 1, .int .i64 0, .int .i64 0, .int .i64 0, .int .i64 0] 45)
      rw [← hw9] at hb9 hk9
      have hrd9 : Rd w9 (some ⟨w8.heap.size, 0, none⟩) 1 1 (fun _ => (⟨1, ⟨0, 0, 0, 0⟩⟩ : T)) := ⟨Nat.le_refl _, by omega, .inr ⟨w8.heap.size, 0, rfl, (Array.getElem?_eq_some_iff.1 hk9).1, fun i hi => by
        have hi0 : i = 0 := by omega
        subst hi0
        exact ⟨cell_of_row _ _ 0 _ _ _ hk9, cell_of_row _ _ 1 _ _ _ hk9, cell_of_row _ _ 2 _ _ _ hk9, cell_of_row _ _ 3 _ _ _ hk9, cell_of_row _ _ 4 _ _ _ hk9⟩⟩⟩
      have Z9 := Hid.mk' (bel_next Z8.out hb9)
      have TO := Hid.mk' (polTextI w9 _ _ _ _ hrd9 (HT.out.below Z9.out))
      rw [one_text] at TO
      clear hw9 hb9 hk9 hrd9 Z8
      go_wp2_with fail
      refine TO.out.mono ?_
      rintro r w10 ⟨rfl, b10⟩
      have Z10 := Hid.mk' (bel_next Z9.out b10)
      clear b10 TO
      go_wp2
      go_ret
      exact ⟨by rfl, Z10.out⟩
    · have hse : S.isEmpty = false := by
        have := polT_ne HOK.out
        rw [HSE.out] at this
        cases S <;> simp at this ⊢
      go_wp2_with fail
      refine (OKI.out _ P7.out).mono ?_
      rintro r w8 ⟨rfl, b8⟩
      have Z8 := Hid.mk' (bel_next Z7.out b8)
      have P8 := Hid.mk' (P7.out.below b8)
      clear b8 OKI Z7 P7
      have RB := Hid.mk' (fun u h k => polReadI S (by omega) u h k)
      go_wp2_with fail
      refine (RB.out _ (HE.out.below Z8.out) (HT.out.below Z8.out)).mono ?_
      rintro r w9 ⟨ba, bc, rfl, b9, ho⟩
      have Z9 := Hid.mk' (bel_next Z8.out b9)
      have P9 := Hid.mk' (P8.out.below b9)
      have B9 := Hid.mk' ho.1
      clear b9 ho RB Z8 P8
      by_cases h4 : S.length ≤ 400
      · have h4I : ¬ (400 : Int) < (S.length : Int) := by omega
        obtain ⟨BL, hB1, hB2, hB3⟩ := polR_T HOK.out (by rw [HSE.out]; exact h4)
        rw [HSE.out] at hB1
        rw [hB1] at B9 ⊢
        dsimp only at B9 ⊢
        have htq : termsEq BL.length (lf BL) m f = true := decide_eq_true ⟨hB2, fun i hi => T.eqB_iff.2 (hB3 i (by omega))⟩
        have HH := Hid.mk' (heSameT _ _ _ _ _ _ _ _ _ B9.out P9.out)
        rw [htq] at HH
        clear hB1 hB2 hB3 htq
        go_wp2_with fail
        refine HH.out.mono ?_
        rintro r w10 ⟨rfl, b10⟩
        have Z10 := Hid.mk' (bel_next Z9.out b10)
        clear b10 HH
        go_wp2
        go_ret
        exact ⟨by rfl, Z10.out⟩
      · have h4I : (400 : Int) < (S.length : Int) := by omega
        go_wp2
        go_ret
        exact ⟨by rfl, Z9.out⟩
  · have TQ := Hid.mk' (polTextI w7 qa _ qc _ Q7.out (HT.out.below Z7.out))
    rw [polR_text HR.out] at TQ
    go_wp2_with fail
    refine TQ.out.mono ?_
    rintro r w7b ⟨rfl, b7b⟩
    have Z7b := Hid.mk' (bel_next Z7.out b7b)
    have P7b := Hid.mk' (P7.out.below b7b)
    clear b7b TQ Z7 P7 Q7
    have Z7 := Z7b
    have P7 := P7b
    clear Z7b P7b
    cases ok
    · have e0 : S = [] := by rw [← HSE.out, polT_no HOK.out]
      subst e0
      go_wp2_with fail
      refine (OKI.out _ P7.out).mono ?_
      rintro r w8 ⟨rfl, b8⟩
      have Z8 := Hid.mk' (bel_next Z7.out b8)
      clear b8 OKI
      go_wp2_with fail
      refine (heOneT _).mono ?_
      rintro r w9 ⟨rfl, hw9⟩
      have hb9 := bel_one w8 (.cells #[.int .i64 1, .int .i64 0, .int .i64 0, .int .i64 0, .int .i64 0] 45)
      have hk9 := heap_alloc_new w8 (.cells #[.int .i64 1, .int .i64 0, .int .i64 0, .int .i64 0, .int .i64 0] 45)
      rw [← hw9] at hb9 hk9
      have hrd9 : Rd w9 (some ⟨w8.heap.size, 0, none⟩) 1 1 (fun _ => (⟨1, ⟨0, 0, 0, 0⟩⟩ : T)) := ⟨Nat.le_refl _, by omega, .inr ⟨w8.heap.size, 0, rfl, (Array.getElem?_eq_some_iff.1 hk9).1, fun i hi => by
        have hi0 : i = 0 := by omega
        subst hi0
        exact ⟨cell_of_row _ _ 0 _ _ _ hk9, cell_of_row _ _ 1 _ _ _ hk9, cell_of_row _ _ 2 _ _ _ hk9, cell_of_row _ _ 3 _ _ _ hk9, cell_of_row _ _ 4 _ _ _ hk9⟩⟩⟩
      have Z9 := Hid.mk' (bel_next Z8.out hb9)
      have TO := Hid.mk' (polTextI w9 _ _ _ _ hrd9 (HT.out.below Z9.out))
      rw [one_text] at TO
      clear hw9 hb9 hk9 hrd9 Z8
      go_wp2_with fail
      refine TO.out.mono ?_
      rintro r w10 ⟨rfl, b10⟩
      have Z10 := Hid.mk' (bel_next Z9.out b10)
      clear b10 TO
      go_wp2
      go_ret
      exact ⟨by rfl, Z10.out⟩
    · have hse : S.isEmpty = false := by
        have := polT_ne HOK.out
        rw [HSE.out] at this
        cases S <;> simp at this ⊢
      go_wp2_with fail
      refine (OKI.out _ P7.out).mono ?_
      rintro r w8 ⟨rfl, b8⟩
      have Z8 := Hid.mk' (bel_next Z7.out b8)
      have P8 := Hid.mk' (P7.out.below b8)
      clear b8 OKI Z7 P7
      have RB := Hid.mk' (fun u h k => polReadI S (by omega) u h k)
      go_wp2_with fail
      refine (RB.out _ (HE.out.below Z8.out) (HT.out.below Z8.out)).mono ?_
      rintro r w9 ⟨ba, bc, rfl, b9, ho⟩
      have Z9 := Hid.mk' (bel_next Z8.out b9)
      have P9 := Hid.mk' (P8.out.below b9)
      have B9 := Hid.mk' ho.1
      clear b9 ho RB Z8 P8
      by_cases h4 : S.length ≤ 400
      · have h4I : ¬ (400 : Int) < (S.length : Int) := by omega
        obtain ⟨BL, hB1, hB2, hB3⟩ := polR_T HOK.out (by rw [HSE.out]; exact h4)
        rw [HSE.out] at hB1
        rw [hB1] at B9 ⊢
        dsimp only at B9 ⊢
        have htq : termsEq BL.length (lf BL) m f = true := decide_eq_true ⟨hB2, fun i hi => T.eqB_iff.2 (hB3 i (by omega))⟩
        have HH := Hid.mk' (heSameT _ _ _ _ _ _ _ _ _ B9.out P9.out)
        rw [htq] at HH
        clear hB1 hB2 hB3 htq
        go_wp2_with fail
        refine HH.out.mono ?_
        rintro r w10 ⟨rfl, b10⟩
        have Z10 := Hid.mk' (bel_next Z9.out b10)
        clear b10 HH
        go_wp2
        go_ret
        exact ⟨by rfl, Z10.out⟩
      · have h4I : (400 : Int) < (S.length : Int) := by omega
        go_wp2
        go_ret
        exact ⟨by rfl, Z9.out⟩
end Go.Proofs.YtnfgiplgkobnlaaGreatDoor
