/-
  A sum of products of two lists: the program.
  A sum of products of two lists: the program's RedSum.
  What is true of a division: what is taken and what is left is all; nothing is greater; what is left is free, and is left again; so many times an operator.
-/
import Derived.Test.YtfjmpempemingaaGbm
import Derived.Test.YtfjmpempemingaaGbj
import Derived.Test.YtfjmpempemingaaGbh
import Derived.Test.YtfjmpempemingaaGbg
namespace Go.Proofs.Ytfjmpempemingaa
open Go.RowKit Go.Deep Go.Joins
set_option linter.unusedVariables false

theorem Wr.set {w : World} {a : Option Addr} {n : Nat} {f : Nat → T} {lo B o : Nat} {v : Value} (h : Wr w a n f) (hf : n = 0 ∨ ∃ g off, a = some ⟨g, off, none⟩ ∧ lo ≤ g) (hB : B < lo) : Wr (w.setCell ⟨B, o, none⟩ v) a n f := by
  rcases h with h0 | ⟨g, off, N, F, rfl, hR, hN, hF⟩
  · exact .inl h0
  · rcases hf with h0 | ⟨g', off', he, hlo⟩
    · exact .inl h0
    · cases he
      have hne : g ≠ B := by omega
      exact .inr ⟨g, off, N, F, rfl, hR.of_block (Below.heap_setCell _ _ _ _ hne), hN, hF⟩
theorem rd_setOther {w : World} {a : Option Addr} {n cap g o : Nat} {f : Nat → T} {v : Value} (h : Rd w a n cap f) (hne : n = 0 ∨ ∀ b off, a = some ⟨b, off, none⟩ → b ≠ g) : Rd (w.setCell ⟨g, o, none⟩ v) a n cap f :=
  h.grown (row := some g) ⟨rfl, rfl, rfl, by simp [World.setCell], fun k _ hk => Below.heap_setCell _ _ _ _ (fun e => hk (by rw [e]))⟩ (hne.imp id (fun k b off he hb => k b off he (by cases hb; rfl)))
theorem Out.set {lo : Nat} {w : World} {a : Option Addr} {cap : Nat} {L : List T} {B o : Nat} {v : Value} (h : Out lo w a cap L) (hB : B < lo) : Out lo (w.setCell ⟨B, o, none⟩ v) a cap L :=
  ⟨rd_setOther h.1 (h.2.2.imp id (fun ⟨g, off, he, hlo⟩ b off' hb => by rw [he] at hb; cases hb; omega)), h.2.1.set h.2.2 hB, h.2.2⟩
theorem Out.nil (lo : Nat) (w : World) : Out lo w none 0 [] := ⟨⟨Nat.le_refl _, by simp, .inl rfl⟩, .inl rfl, .inl rfl⟩
theorem Out.low {lo lo' : Nat} {w : World} {a : Option Addr} {cap : Nat} {L : List T} (h : Out lo w a cap L) (hl : lo' ≤ lo) : Out lo' w a cap L := ⟨h.1, h.2.1, h.2.2.imp id (fun ⟨g, off, he, hlo⟩ => ⟨g, off, he, Nat.le_trans hl hlo⟩)⟩
/-- what holds in a round: the sum's cell, the list's cell, and its operator's. -/
abbrev C3 (bs : Nat) (vs : Value) (B1 : Nat) (v1 : Value) (b2 o2 : Nat) (v2 : Value) (u : World) : Prop := u.cell? ⟨bs, 0, none⟩ = some vs ∧ u.cell? ⟨B1, 0, none⟩ = some v1 ∧ u.cell? ⟨b2, o2, none⟩ = some v2
theorem C3.below {bs B1 b2 o2 : Nat} {vs v1 v2 : Value} {u u' : World} (h : C3 bs vs B1 v1 b2 o2 v2 u) (hb : Below u.heap.size u u') : C3 bs vs B1 v1 b2 o2 v2 u' :=
  ⟨(hb.cell (p := ⟨bs, 0, none⟩) (World.block_lt_of_cell? u _ h.1)).trans h.1, (hb.cell (p := ⟨B1, 0, none⟩) (World.block_lt_of_cell? u _ h.2.1)).trans h.2.1, (hb.cell (p := ⟨b2, o2, none⟩) (World.block_lt_of_cell? u _ h.2.2)).trans h.2.2⟩
theorem C2.set {b1 o1 b2 o2 : Nat} {v1 v2 : Value} {u : World} {B : Nat} {v : Value} (h : C2 b1 o1 v1 b2 o2 v2 u) (h1 : b1 ≠ B) (h2 : b2 ≠ B) : C2 b1 o1 v1 b2 o2 v2 (u.setCell ⟨B, 0, none⟩ v) :=
  ⟨(World.cell?_of_block (w := u) (a := ⟨b1, o1, none⟩) (Below.heap_setCell _ _ _ _ h1)).trans h.1, (World.cell?_of_block (w := u) (a := ⟨b2, o2, none⟩) (Below.heap_setCell _ _ _ _ h2)).trans h.2⟩
def SumPost (w0 : World) (S : Option (List T)) (r : Ending) (w' : World) : Prop :=
  Below w0.heap.size w0 w' ∧ ((∃ K a c, S = some K ∧ okL K = true ∧ r = .returned (.tuple #[]) ∧ w'.cell? ⟨w0.heap.size, 0, none⟩ = some (.slice a K.length c) ∧ Out (w0.heap.size + 1) w' a c K) ∨ (S = none ∧ r = .panicked [{ v := tooMuch, recovered := false }]))
theorem SumPost.no {w0 : World} {S : Option (List T)} {w' : World} (hb : Below w0.heap.size w0 w') (h : S = none) : SumPost w0 S (.panicked [{ v := tooMuch, recovered := false }]) w' := ⟨hb, .inr ⟨h, rfl⟩⟩
theorem SumPost.yes {w0 : World} {S : Option (List T)} {w' : World} {K : List T} {a : Option Addr} {c : Nat} (hb : Below w0.heap.size w0 w') (h : S = some K) (hk : okL K = true) (hc : w'.cell? ⟨w0.heap.size, 0, none⟩ = some (.slice a K.length c)) (ho : Out (w0.heap.size + 1) w' a c K) : SumPost w0 S (.returned (.tuple #[])) w' := ⟨hb, .inl ⟨K, a, c, h, hk, rfl, hc, ho⟩⟩
set_option maxRecDepth 100000 in
set_option maxHeartbeats 8000000 in
theorem sum1I (w0 W : World) (B0 B1 : Nat) (n : Nat) (a1 : Option Addr) (c1 : Nat) (ad1 : Nat → Option Addr) (ln1 cp1 : Nat → Nat) (f1 : Nat → Nat → T) (h1 : RdS w0 a1 n c1 ad1 ln1 cp1 f1) (a2 : Option Addr) (c2 : Nat) (ad2 : Nat → Option Addr) (ln2 cp2 : Nat → Nat) (f2 : Nat → Nat → T) (h2 : RdS w0 a2 n c2 ad2 ln2 cp2 f2)
    (k0 : w0.cell? ⟨B0, 0, none⟩ = some (.slice a1 n c1)) (k1 : w0.cell? ⟨B1, 0, none⟩ = some (.slice a2 n c2)) (hb : Below w0.heap.size w0 W) (hs : W.cell? ⟨w0.heap.size, 0, none⟩ = some (.slice none 0 0)) (hf : W.frozen? ⟨w0.heap.size, 0, none⟩ = false) :
    Calls Try.prog 38 #[.pointer (some ⟨B0, 0, none⟩), .pointer (some ⟨w0.heap.size, 0, none⟩), .pointer (some ⟨B1, 0, none⟩)] W fun r w' => SumPost w0 (sumPr ln1 f1 ln2 f2 n) r w' := by
  have qn : (n : Int) ≤ 140737488351232 := by have := h1.2.1; omega
  have H1 := Hid.mk' h1
  have H2 := Hid.mk' h2
  have HB0 := Hid.mk' hb
  have hl0 := World.block_lt_of_cell? w0 _ k0
  have hl1 := World.block_lt_of_cell? w0 _ k1
  have K1 := Hid.mk' k1
  have g0 : W.cell? ⟨B0, 0, none⟩ = some (.slice a1 n c1) := (hb.cell (p := ⟨B0, 0, none⟩) hl0).trans k0
  have HS0 := Hid.mk' hs
  have HF0 := Hid.mk' hf
  have hw1 : w0.heap.size + 1 ≤ W.heap.size := World.block_lt_of_cell? W _ hs
  clear h1 h2 k0 k1 hb hs hf
  go_enter Try.func38, Try.ntmps38
  go_wp2
  clear g0
  go_loopw [7] (fun v wr => ∃ (i : Nat) (K : List T) (a : Option Addr) (c : Nat), i ≤ n ∧ v = .int .i64 (i : Int) ∧ sumPr ln1 f1 ln2 f2 i = some K ∧ okL K = true ∧ Below w0.heap.size w0 wr ∧ wr.cell? ⟨w0.heap.size, 0, none⟩ = some (.slice a K.length c) ∧ wr.frozen? ⟨w0.heap.size, 0, none⟩ = false ∧ Out (w0.heap.size + 1) wr a c K) (fun v _ => n - (intOf v).toNat)
  case atStart => exact ⟨0, [], none, 0, Nat.zero_le _, rfl, rfl, okL_nil, HB0.out, HS0.out, HF0.out, Out.nil _ _⟩
  case round =>
    obtain ⟨i, K, a, c, hi, rfl, hs, hK, hB, hcl, hfz, hout⟩ := hrel
    have HS := Hid.mk' hs
    have HK := Hid.mk' hK
    have HB := Hid.mk' hB
    have HO := Hid.mk' hout
    have HF := Hid.mk' hfz
    have HCL := Hid.mk' hcl
    clear hs hK hout hfz
    by_cases hlt : i < n
    · rcases H1.out.2.2.1 with h0 | ⟨b1, off1, rfl, hb1, hc1⟩
      · omega
      rcases H2.out.2.2.1 with h0 | ⟨b2, off2, rfl, hb2, hc2⟩
      · omega
      have hil : (i : Int) < (n : Int) := by omega
      have g1 : wr.cell? ⟨b1, off1 + i, none⟩ = some (.slice (ad1 i) (ln1 i) (cp1 i)) := (hB.cell (p := ⟨b1, off1 + i, none⟩) hb1).trans (hc1 i hlt)
      have g2 : wr.cell? ⟨b2, off2 + i, none⟩ = some (.slice (ad2 i) (ln2 i) (cp2 i)) := (hB.cell (p := ⟨b2, off2 + i, none⟩) hb2).trans (hc2 i hlt)
      have g3 : wr.cell? ⟨B1, 0, none⟩ = some (.slice (some ⟨b2, off2, none⟩) n c2) := (hB.cell (p := ⟨B1, 0, none⟩) hl1).trans K1.out
      have hS : C3 w0.heap.size (.slice a K.length c) B1 (.slice (some ⟨b2, off2, none⟩) n c2) b2 (off2 + i) (.slice (ad2 i) (ln2 i) (cp2 i)) wr.drew := ⟨hcl, g3, g2⟩
      have R1 := Hid.mk' (((H1.out.2.2.2 i hlt).below hB).below (Below.refl _ _).drew)
      have R2 := Hid.mk' (((H2.out.2.2.2 i hlt).below hB).below (Below.refl _ _).drew)
      have HBD := Hid.mk' hB.drew
      have HOD := Hid.mk' (HO.out.below (Below.refl _ _).drew)
      have hmul := wylMulI wr.drew (ad1 i) (ad2 i) (ln1 i) (cp1 i) (ln2 i) (cp2 i) (f1 i) (f2 i) R1.out R2.out
      have HZ : Hid (∀ u v : World, Below wr.drew.heap.size wr.drew u → Below u.heap.size u v → v.frozen? ⟨w0.heap.size, 0, none⟩ = false) := fun u v q1 q2 => (q2.frozen (p := ⟨w0.heap.size, 0, none⟩) (World.block_lt_of_cell? u _ ((hS.below q1).1))).trans ((q1.frozen (p := ⟨w0.heap.size, 0, none⟩) (World.block_lt_of_cell? wr.drew _ hS.1)).trans HF.out)
      clear hc1 hc2 hB
      have hcs : (wylMul (f1 i) (ln1 i) (f2 i) (ln2 i) = ([], false) ∧ stepS K (f1 i) (ln1 i) (f2 i) (ln2 i) = none) ∨ (∃ P, wylMul (f1 i) (ln1 i) (f2 i) (ln2 i) = (P, true) ∧ addV K P = ([], false) ∧ stepS K (f1 i) (ln1 i) (f2 i) (ln2 i) = none) ∨ (∃ P, wylMul (f1 i) (ln1 i) (f2 i) (ln2 i) = (P, true) ∧ addV K P = (addL K P, true) ∧ stepS K (f1 i) (ln1 i) (f2 i) (ln2 i) = some (addL K P) ∧ okL (addL K P) = true) := by
        rcases step_cases HK.out (f1 i) (ln1 i) (f2 i) (ln2 i) with ⟨hp, hw, hst⟩ | ⟨p1, p2, hm, hw, hst⟩ | ⟨P, p1, p2, hm, hw, hP, hl, ha, hst⟩ | ⟨P, p1, p2, hm, hw, hP, hl, ha, hst, hok⟩
        · exact .inl ⟨hw, hst⟩
        · exact .inl ⟨hw, hst⟩
        · exact .inr (.inl ⟨P, hw, ha, hst⟩)
        · exact .inr (.inr ⟨P, hw, ha, hst, hok⟩)
      have HNO : Hid (stepS K (f1 i) (ln1 i) (f2 i) (ln2 i) = none → sumPr ln1 f1 ln2 f2 n = none) := fun hst => by
        have := sumPr_none ((sumPr_step HS.out).trans hst) (n - (i + 1))
        rw [show i + 1 + (n - (i + 1)) = n by omega] at this
        exact this
      rcases hcs with ⟨hw, hst⟩ | ⟨P, hw, ha, hst⟩ | ⟨P, hw, ha, hst, hok⟩
      · have HN := Hid.mk' (HNO.out hst)
        rw [hw] at hmul
        clear hw hst HNO
        have hs0 : wr.drew.cell? ⟨w0.heap.size, 0, none⟩ = some (.slice a K.length c) := hS.1
        have e2 : wr.drew.cell? ⟨B1, 0, none⟩ = some (.slice (some ⟨b2, off2, none⟩) n c2) := hS.2.1
        have e3 : wr.drew.cell? ⟨b2, off2 + i, none⟩ = some (.slice (ad2 i) (ln2 i) (cp2 i)) := hS.2.2
        have HSS := Hid.mk' hS
        clear hS
        go_wp2_with fail
        refine wp_region_any (by kernel_rfl) ?_
        (try (change wpAny _ _ _ _ _ _ _ (World.drew _)))
        refine wpAny_take (i := 1) (v := ?_) rfl (by kernel_rfl) (by kernel_rfl) (by kernel_rfl) (fun _ _ _ h => h) (Or.inl ⟨by rfl, ?_⟩) ?_
        rotate_left
        · (intro w9; go_simp) <;> with_reducible rfl
        refine wpAny_take (i := 3) (v := ?_) rfl (by kernel_rfl) (by kernel_rfl) (by kernel_rfl) (fun _ _ _ h => h) (Or.inl ⟨by rfl, ?_⟩) ?_
        rotate_left
        · (intro w9; go_simp) <;> with_reducible rfl
        refine wpAny_ready (rs := [0, 2]) (by kernel_rfl) (by simp) ?_
        refine AllReady.cons rfl (fun KK hKK => ?_) ?_
        · go_simp
          (try (refine hKK _ _ ?_; clear hKK KK))
          refine wpAny_ready (rs := [2]) (by kernel_rfl) (by simp) ?_
          refine AllReady.cons rfl (fun KK hKK => ?_) ?_
          · go_simp
            (try (refine hKK _ _ ?_; clear hKK KK))
            refine wpAny_take (i := 4) (v := ?_) rfl (by kernel_rfl) (by kernel_rfl) (by kernel_rfl) (fun _ _ _ h => h) (Or.inl ⟨by rfl, ?_⟩) ?_
            rotate_left
            · (intro w9; go_simp) <;> with_reducible rfl
            refine wpAny_ready (rs := [5]) (by kernel_rfl) (by simp) ?_
            refine AllReady.cons rfl (fun KK hKK => ?_) ?_
            · go_simp
              (try (refine hKK _ _ ?_; clear hKK KK))
              refine wpAny_ready (rs := [6]) (by kernel_rfl) (by simp) ?_
              refine AllReady.cons rfl (fun KK hKK => ?_) ?_
              · go_simp
                go_wp2_with (go_at_call 17; refine hmul.mono ?_; rintro e w1 ⟨p1a, p1c, rfl, bb1, oo1⟩; have hs1 := (HSS.out.below bb1).1)
                (try (refine hKK _ _ ?_; clear hKK KK))
                refine wpAny_take (i := 7) (v := ?_) rfl (by kernel_rfl) (by kernel_rfl) (by kernel_rfl) (fun _ _ _ h => h) (Or.inl ⟨by rfl, ?_⟩) ?_
                rotate_left
                · (intro w9; go_simp) <;> with_reducible rfl
                refine wpAny_take (i := 8) (v := ?_) rfl (by kernel_rfl) (by kernel_rfl) (by kernel_rfl) (fun _ _ _ h => h) (Or.inl ⟨by rfl, ?_⟩) ?_
                rotate_left
                · (intro w9; go_simp) <;> with_reducible rfl
                refine wpAny_ready (rs := [9]) (by kernel_rfl) (by simp) ?_
                refine AllReady.cons rfl (fun KK hKK => ?_) ?_
                · go_simp
                  go_wp2_with (go_at_call 39; refine (redNeed_no _ _).mono ?_; rintro e wn ⟨rfl, hwn⟩; obtain rfl := hwn.symm; clear hwn)
                  exact ⟨rfl, SumPost.no (bel_next HBD.out bb1) HN.out⟩
                exact AllReady.nil
              exact AllReady.nil
            exact AllReady.nil
          exact AllReady.nil
        refine AllReady.cons rfl (fun KK hKK => ?_) ?_
        · go_simp
          (try (refine hKK _ _ ?_; clear hKK KK))
          refine wpAny_take (i := 4) (v := ?_) rfl (by kernel_rfl) (by kernel_rfl) (by kernel_rfl) (fun _ _ _ h => h) (Or.inl ⟨by rfl, ?_⟩) ?_
          rotate_left
          · (intro w9; go_simp) <;> with_reducible rfl
          refine wpAny_ready (rs := [0, 5]) (by kernel_rfl) (by simp) ?_
          refine AllReady.cons rfl (fun KK hKK => ?_) ?_
          · go_simp
            (try (refine hKK _ _ ?_; clear hKK KK))
            refine wpAny_ready (rs := [5]) (by kernel_rfl) (by simp) ?_
            refine AllReady.cons rfl (fun KK hKK => ?_) ?_
            · go_simp
              (try (refine hKK _ _ ?_; clear hKK KK))
              refine wpAny_ready (rs := [6]) (by kernel_rfl) (by simp) ?_
              refine AllReady.cons rfl (fun KK hKK => ?_) ?_
              · go_simp
                go_wp2_with (go_at_call 17; refine hmul.mono ?_; rintro e w1 ⟨p1a, p1c, rfl, bb1, oo1⟩; have hs1 := (HSS.out.below bb1).1)
                (try (refine hKK _ _ ?_; clear hKK KK))
                refine wpAny_take (i := 7) (v := ?_) rfl (by kernel_rfl) (by kernel_rfl) (by kernel_rfl) (fun _ _ _ h => h) (Or.inl ⟨by rfl, ?_⟩) ?_
                rotate_left
                · (intro w9; go_simp) <;> with_reducible rfl
                refine wpAny_take (i := 8) (v := ?_) rfl (by kernel_rfl) (by kernel_rfl) (by kernel_rfl) (fun _ _ _ h => h) (Or.inl ⟨by rfl, ?_⟩) ?_
                rotate_left
                · (intro w9; go_simp) <;> with_reducible rfl
                refine wpAny_ready (rs := [9]) (by kernel_rfl) (by simp) ?_
                refine AllReady.cons rfl (fun KK hKK => ?_) ?_
                · go_simp
                  go_wp2_with (go_at_call 39; refine (redNeed_no _ _).mono ?_; rintro e wn ⟨rfl, hwn⟩; obtain rfl := hwn.symm; clear hwn)
                  exact ⟨rfl, SumPost.no (bel_next HBD.out bb1) HN.out⟩
                exact AllReady.nil
              exact AllReady.nil
            exact AllReady.nil
          refine AllReady.cons rfl (fun KK hKK => ?_) ?_
          · go_simp
            (try (refine hKK _ _ ?_; clear hKK KK))
            refine wpAny_ready (rs := [0, 6]) (by kernel_rfl) (by simp) ?_
            refine AllReady.cons rfl (fun KK hKK => ?_) ?_
            · go_simp
              (try (refine hKK _ _ ?_; clear hKK KK))
              refine wpAny_ready (rs := [6]) (by kernel_rfl) (by simp) ?_
              refine AllReady.cons rfl (fun KK hKK => ?_) ?_
              · go_simp
                go_wp2_with (go_at_call 17; refine hmul.mono ?_; rintro e w1 ⟨p1a, p1c, rfl, bb1, oo1⟩; have hs1 := (HSS.out.below bb1).1)
                (try (refine hKK _ _ ?_; clear hKK KK))
                refine wpAny_take (i := 7) (v := ?_) rfl (by kernel_rfl) (by kernel_rfl) (by kernel_rfl) (fun _ _ _ h => h) (Or.inl ⟨by rfl, ?_⟩) ?_
                rotate_left
                · (intro w9; go_simp) <;> with_reducible rfl
                refine wpAny_take (i := 8) (v := ?_) rfl (by kernel_rfl) (by kernel_rfl) (by kernel_rfl) (fun _ _ _ h => h) (Or.inl ⟨by rfl, ?_⟩) ?_
                rotate_left
                · (intro w9; go_simp) <;> with_reducible rfl
                refine wpAny_ready (rs := [9]) (by kernel_rfl) (by simp) ?_
                refine AllReady.cons rfl (fun KK hKK => ?_) ?_
                · go_simp
                  go_wp2_with (go_at_call 39; refine (redNeed_no _ _).mono ?_; rintro e wn ⟨rfl, hwn⟩; obtain rfl := hwn.symm; clear hwn)
                  exact ⟨rfl, SumPost.no (bel_next HBD.out bb1) HN.out⟩
                exact AllReady.nil
              exact AllReady.nil
            refine AllReady.cons rfl (fun KK hKK => ?_) ?_
            · go_simp
              go_wp2_with (go_at_call 17; refine hmul.mono ?_; rintro e w1 ⟨p1a, p1c, rfl, bb1, oo1⟩; have hs1 := (HSS.out.below bb1).1)
              (try (refine hKK _ _ ?_; clear hKK KK))
              refine wpAny_take (i := 7) (v := ?_) rfl (by kernel_rfl) (by kernel_rfl) (by kernel_rfl) (fun _ _ _ h => h) (Or.inl ⟨by rfl, ?_⟩) ?_
              rotate_left
              · (intro w9; go_simp) <;> with_reducible rfl
              refine wpAny_take (i := 8) (v := ?_) rfl (by kernel_rfl) (by kernel_rfl) (by kernel_rfl) (fun _ _ _ h => h) (Or.inl ⟨by rfl, ?_⟩) ?_
              rotate_left
              · (intro w9; go_simp) <;> with_reducible rfl
              refine wpAny_ready (rs := [0, 9]) (by kernel_rfl) (by simp) ?_
              refine AllReady.cons rfl (fun KK hKK => ?_) ?_
              · go_simp
                (try (refine hKK _ _ ?_; clear hKK KK))
                refine wpAny_ready (rs := [9]) (by kernel_rfl) (by simp) ?_
                refine AllReady.cons rfl (fun KK hKK => ?_) ?_
                · go_simp
                  go_wp2_with (go_at_call 39; refine (redNeed_no _ _).mono ?_; rintro e wn ⟨rfl, hwn⟩; obtain rfl := hwn.symm; clear hwn)
                  exact ⟨rfl, SumPost.no (bel_next HBD.out bb1) HN.out⟩
                exact AllReady.nil
              refine AllReady.cons rfl (fun KK hKK => ?_) ?_
              · go_simp
                go_wp2_with (go_at_call 39; refine (redNeed_no _ _).mono ?_; rintro e wn ⟨rfl, hwn⟩; obtain rfl := hwn.symm; clear hwn)
                exact ⟨rfl, SumPost.no (bel_next HBD.out bb1) HN.out⟩
              exact AllReady.nil
            exact AllReady.nil
          exact AllReady.nil
        exact AllReady.nil
      · have HN := Hid.mk' (HNO.out hst)
        rw [hw] at hmul
        clear hw hst HNO
        have hadd : ∀ (u : World) (a' : Option Addr) (c' : Nat), RL u a c K → RL u a' c' P → Calls Try.prog 18 #[.slice a K.length c, .slice a' P.length c'] u fun r w' => ∃ a'' c'', r = .returned (.tuple #[.slice a'' ([] : List T).length c'', .bool false]) ∧ Below u.heap.size u w' ∧ Out u.heap.size w' a'' c'' ([] : List T) := fun u a' c' q1 q2 => by
          have := polAddI u a a' K.length c P.length c' (lf K) (lf P) q1 q2
          rw [show polAdd (lf K) K.length (lf P) P.length = (([] : List T), false) from ha] at this
          exact this
        have HADD := Hid.mk' hadd
        clear hadd ha
        have hs0 : wr.drew.cell? ⟨w0.heap.size, 0, none⟩ = some (.slice a K.length c) := hS.1
        have e2 : wr.drew.cell? ⟨B1, 0, none⟩ = some (.slice (some ⟨b2, off2, none⟩) n c2) := hS.2.1
        have e3 : wr.drew.cell? ⟨b2, off2 + i, none⟩ = some (.slice (ad2 i) (ln2 i) (cp2 i)) := hS.2.2
        have HSS := Hid.mk' hS
        clear hS
        go_wp2_with fail
        refine wp_region_any (by kernel_rfl) ?_
        (try (change wpAny _ _ _ _ _ _ _ (World.drew _)))
        refine wpAny_take (i := 1) (v := ?_) rfl (by kernel_rfl) (by kernel_rfl) (by kernel_rfl) (fun _ _ _ h => h) (Or.inl ⟨by rfl, ?_⟩) ?_
        rotate_left
        · (intro w9; go_simp) <;> with_reducible rfl
        refine wpAny_take (i := 3) (v := ?_) rfl (by kernel_rfl) (by kernel_rfl) (by kernel_rfl) (fun _ _ _ h => h) (Or.inl ⟨by rfl, ?_⟩) ?_
        rotate_left
        · (intro w9; go_simp) <;> with_reducible rfl
        refine wpAny_ready (rs := [0, 2]) (by kernel_rfl) (by simp) ?_
        refine AllReady.cons rfl (fun KK hKK => ?_) ?_
        · go_simp
          (try (refine hKK _ _ ?_; clear hKK KK))
          refine wpAny_ready (rs := [2]) (by kernel_rfl) (by simp) ?_
          refine AllReady.cons rfl (fun KK hKK => ?_) ?_
          · go_simp
            (try (refine hKK _ _ ?_; clear hKK KK))
            refine wpAny_take (i := 4) (v := ?_) rfl (by kernel_rfl) (by kernel_rfl) (by kernel_rfl) (fun _ _ _ h => h) (Or.inl ⟨by rfl, ?_⟩) ?_
            rotate_left
            · (intro w9; go_simp) <;> with_reducible rfl
            refine wpAny_ready (rs := [5]) (by kernel_rfl) (by simp) ?_
            refine AllReady.cons rfl (fun KK hKK => ?_) ?_
            · go_simp
              (try (refine hKK _ _ ?_; clear hKK KK))
              refine wpAny_ready (rs := [6]) (by kernel_rfl) (by simp) ?_
              refine AllReady.cons rfl (fun KK hKK => ?_) ?_
              · go_simp
                go_wp2_with (go_at_call 17; refine hmul.mono ?_; rintro e w1 ⟨p1a, p1c, rfl, bb1, oo1⟩; have hs1 := (HSS.out.below bb1).1)
                (try (refine hKK _ _ ?_; clear hKK KK))
                refine wpAny_take (i := 7) (v := ?_) rfl (by kernel_rfl) (by kernel_rfl) (by kernel_rfl) (fun _ _ _ h => h) (Or.inl ⟨by rfl, ?_⟩) ?_
                rotate_left
                · (intro w9; go_simp) <;> with_reducible rfl
                refine wpAny_take (i := 8) (v := ?_) rfl (by kernel_rfl) (by kernel_rfl) (by kernel_rfl) (fun _ _ _ h => h) (Or.inl ⟨by rfl, ?_⟩) ?_
                rotate_left
                · (intro w9; go_simp) <;> with_reducible rfl
                refine wpAny_ready (rs := [9]) (by kernel_rfl) (by simp) ?_
                refine AllReady.cons rfl (fun KK hKK => ?_) ?_
                · go_simp
                  go_wp2_with (go_at_call 39; refine (redNeed_yes _ _).mono ?_; rintro e wn ⟨rfl, hwn⟩; obtain rfl := hwn.symm; clear hwn)
                  (try (refine hKK _ _ ?_; clear hKK KK))
                  refine wpAny_ready (rs := [10]) (by kernel_rfl) (by simp) ?_
                  refine AllReady.cons rfl (fun KK hKK => ?_) ?_
                  · go_simp
                    go_wp2_with (go_at_call 18; refine (HADD.out w1 p1a p1c (HOD.out.1.below bb1) oo1.1).mono ?_; rintro e w2 ⟨p2a, p2c, rfl, bb2, oo2⟩)
                    (try (refine hKK _ _ ?_; clear hKK KK))
                    refine wpAny_take (i := 11) (v := ?_) rfl (by kernel_rfl) (by kernel_rfl) (by kernel_rfl) (fun _ _ _ h => h) (Or.inl ⟨by rfl, ?_⟩) ?_
                    rotate_left
                    · (intro w9; go_simp) <;> with_reducible rfl
                    refine wpAny_take (i := 12) (v := ?_) rfl (by kernel_rfl) (by kernel_rfl) (by kernel_rfl) (fun _ _ _ h => h) (Or.inl ⟨by rfl, ?_⟩) ?_
                    rotate_left
                    · (intro w9; go_simp) <;> with_reducible rfl
                    refine wpAny_ready (rs := [13]) (by kernel_rfl) (by simp) ?_
                    refine AllReady.cons rfl (fun KK hKK => ?_) ?_
                    · go_simp
                      go_wp2_with (go_at_call 39; refine (redNeed_no _ _).mono ?_; rintro e wn ⟨rfl, hwn⟩; obtain rfl := hwn.symm; clear hwn)
                      exact ⟨rfl, SumPost.no (bel_next (bel_next HBD.out bb1) bb2) HN.out⟩
                    exact AllReady.nil
                  exact AllReady.nil
                exact AllReady.nil
              exact AllReady.nil
            exact AllReady.nil
          exact AllReady.nil
        refine AllReady.cons rfl (fun KK hKK => ?_) ?_
        · go_simp
          (try (refine hKK _ _ ?_; clear hKK KK))
          refine wpAny_take (i := 4) (v := ?_) rfl (by kernel_rfl) (by kernel_rfl) (by kernel_rfl) (fun _ _ _ h => h) (Or.inl ⟨by rfl, ?_⟩) ?_
          rotate_left
          · (intro w9; go_simp) <;> with_reducible rfl
          refine wpAny_ready (rs := [0, 5]) (by kernel_rfl) (by simp) ?_
          refine AllReady.cons rfl (fun KK hKK => ?_) ?_
          · go_simp
            (try (refine hKK _ _ ?_; clear hKK KK))
            refine wpAny_ready (rs := [5]) (by kernel_rfl) (by simp) ?_
            refine AllReady.cons rfl (fun KK hKK => ?_) ?_
            · go_simp
              (try (refine hKK _ _ ?_; clear hKK KK))
              refine wpAny_ready (rs := [6]) (by kernel_rfl) (by simp) ?_
              refine AllReady.cons rfl (fun KK hKK => ?_) ?_
              · go_simp
                go_wp2_with (go_at_call 17; refine hmul.mono ?_; rintro e w1 ⟨p1a, p1c, rfl, bb1, oo1⟩; have hs1 := (HSS.out.below bb1).1)
                (try (refine hKK _ _ ?_; clear hKK KK))
                refine wpAny_take (i := 7) (v := ?_) rfl (by kernel_rfl) (by kernel_rfl) (by kernel_rfl) (fun _ _ _ h => h) (Or.inl ⟨by rfl, ?_⟩) ?_
                rotate_left
                · (intro w9; go_simp) <;> with_reducible rfl
                refine wpAny_take (i := 8) (v := ?_) rfl (by kernel_rfl) (by kernel_rfl) (by kernel_rfl) (fun _ _ _ h => h) (Or.inl ⟨by rfl, ?_⟩) ?_
                rotate_left
                · (intro w9; go_simp) <;> with_reducible rfl
                refine wpAny_ready (rs := [9]) (by kernel_rfl) (by simp) ?_
                refine AllReady.cons rfl (fun KK hKK => ?_) ?_
                · go_simp
                  go_wp2_with (go_at_call 39; refine (redNeed_yes _ _).mono ?_; rintro e wn ⟨rfl, hwn⟩; obtain rfl := hwn.symm; clear hwn)
                  (try (refine hKK _ _ ?_; clear hKK KK))
                  refine wpAny_ready (rs := [10]) (by kernel_rfl) (by simp) ?_
                  refine AllReady.cons rfl (fun KK hKK => ?_) ?_
                  · go_simp
                    go_wp2_with (go_at_call 18; refine (HADD.out w1 p1a p1c (HOD.out.1.below bb1) oo1.1).mono ?_; rintro e w2 ⟨p2a, p2c, rfl, bb2, oo2⟩)
                    (try (refine hKK _ _ ?_; clear hKK KK))
                    refine wpAny_take (i := 11) (v := ?_) rfl (by kernel_rfl) (by kernel_rfl) (by kernel_rfl) (fun _ _ _ h => h) (Or.inl ⟨by rfl, ?_⟩) ?_
                    rotate_left
                    · (intro w9; go_simp) <;> with_reducible rfl
                    refine wpAny_take (i := 12) (v := ?_) rfl (by kernel_rfl) (by kernel_rfl) (by kernel_rfl) (fun _ _ _ h => h) (Or.inl ⟨by rfl, ?_⟩) ?_
                    rotate_left
                    · (intro w9; go_simp) <;> with_reducible rfl
                    refine wpAny_ready (rs := [13]) (by kernel_rfl) (by simp) ?_
                    refine AllReady.cons rfl (fun KK hKK => ?_) ?_
                    · go_simp
                      go_wp2_with (go_at_call 39; refine (redNeed_no _ _).mono ?_; rintro e wn ⟨rfl, hwn⟩; obtain rfl := hwn.symm; clear hwn)
                      exact ⟨rfl, SumPost.no (bel_next (bel_next HBD.out bb1) bb2) HN.out⟩
                    exact AllReady.nil
                  exact AllReady.nil
                exact AllReady.nil
              exact AllReady.nil
            exact AllReady.nil
          refine AllReady.cons rfl (fun KK hKK => ?_) ?_
          · go_simp
            (try (refine hKK _ _ ?_; clear hKK KK))
            refine wpAny_ready (rs := [0, 6]) (by kernel_rfl) (by simp) ?_
            refine AllReady.cons rfl (fun KK hKK => ?_) ?_
            · go_simp
              (try (refine hKK _ _ ?_; clear hKK KK))
              refine wpAny_ready (rs := [6]) (by kernel_rfl) (by simp) ?_
              refine AllReady.cons rfl (fun KK hKK => ?_) ?_
              · go_simp
                go_wp2_with (go_at_call 17; refine hmul.mono ?_; rintro e w1 ⟨p1a, p1c, rfl, bb1, oo1⟩; have hs1 := (HSS.out.below bb1).1)
                (try (refine hKK _ _ ?_; clear hKK KK))
                refine wpAny_take (i := 7) (v := ?_) rfl (by kernel_rfl) (by kernel_rfl) (by kernel_rfl) (fun _ _ _ h => h) (Or.inl ⟨by rfl, ?_⟩) ?_
                rotate_left
                · (intro w9; go_simp) <;> with_reducible rfl
                refine wpAny_take (i := 8) (v := ?_) rfl (by kernel_rfl) (by kernel_rfl) (by kernel_rfl) (fun _ _ _ h => h) (Or.inl ⟨by rfl, ?_⟩) ?_
                rotate_left
                · (intro w9; go_simp) <;> with_reducible rfl
                refine wpAny_ready (rs := [9]) (by kernel_rfl) (by simp) ?_
                refine AllReady.cons rfl (fun KK hKK => ?_) ?_
                · go_simp
                  go_wp2_with (go_at_call 39; refine (redNeed_yes _ _).mono ?_; rintro e wn ⟨rfl, hwn⟩; obtain rfl := hwn.symm; clear hwn)
                  (try (refine hKK _ _ ?_; clear hKK KK))
                  refine wpAny_ready (rs := [10]) (by kernel_rfl) (by simp) ?_
                  refine AllReady.cons rfl (fun KK hKK => ?_) ?_
                  · go_simp
                    go_wp2_with (go_at_call 18; refine (HADD.out w1 p1a p1c (HOD.out.1.below bb1) oo1.1).mono ?_; rintro e w2 ⟨p2a, p2c, rfl, bb2, oo2⟩)
                    (try (refine hKK _ _ ?_; clear hKK KK))
                    refine wpAny_take (i := 11) (v := ?_) rfl (by kernel_rfl) (by kernel_rfl) (by kernel_rfl) (fun _ _ _ h => h) (Or.inl ⟨by rfl, ?_⟩) ?_
                    rotate_left
                    · (intro w9; go_simp) <;> with_reducible rfl
                    refine wpAny_take (i := 12) (v := ?_) rfl (by kernel_rfl) (by kernel_rfl) (by kernel_rfl) (fun _ _ _ h => h) (Or.inl ⟨by rfl, ?_⟩) ?_
                    rotate_left
                    · (intro w9; go_simp) <;> with_reducible rfl
                    refine wpAny_ready (rs := [13]) (by kernel_rfl) (by simp) ?_
                    refine AllReady.cons rfl (fun KK hKK => ?_) ?_
                    · go_simp
                      go_wp2_with (go_at_call 39; refine (redNeed_no _ _).mono ?_; rintro e wn ⟨rfl, hwn⟩; obtain rfl := hwn.symm; clear hwn)
                      exact ⟨rfl, SumPost.no (bel_next (bel_next HBD.out bb1) bb2) HN.out⟩
                    exact AllReady.nil
                  exact AllReady.nil
                exact AllReady.nil
              exact AllReady.nil
            refine AllReady.cons rfl (fun KK hKK => ?_) ?_
            · go_simp
              go_wp2_with (go_at_call 17; refine hmul.mono ?_; rintro e w1 ⟨p1a, p1c, rfl, bb1, oo1⟩; have hs1 := (HSS.out.below bb1).1)
              (try (refine hKK _ _ ?_; clear hKK KK))
              refine wpAny_take (i := 7) (v := ?_) rfl (by kernel_rfl) (by kernel_rfl) (by kernel_rfl) (fun _ _ _ h => h) (Or.inl ⟨by rfl, ?_⟩) ?_
              rotate_left
              · (intro w9; go_simp) <;> with_reducible rfl
              refine wpAny_take (i := 8) (v := ?_) rfl (by kernel_rfl) (by kernel_rfl) (by kernel_rfl) (fun _ _ _ h => h) (Or.inl ⟨by rfl, ?_⟩) ?_
              rotate_left
              · (intro w9; go_simp) <;> with_reducible rfl
              refine wpAny_ready (rs := [0, 9]) (by kernel_rfl) (by simp) ?_
              refine AllReady.cons rfl (fun KK hKK => ?_) ?_
              · go_simp
                (try (refine hKK _ _ ?_; clear hKK KK))
                refine wpAny_ready (rs := [9]) (by kernel_rfl) (by simp) ?_
                refine AllReady.cons rfl (fun KK hKK => ?_) ?_
                · go_simp
                  go_wp2_with (go_at_call 39; refine (redNeed_yes _ _).mono ?_; rintro e wn ⟨rfl, hwn⟩; obtain rfl := hwn.symm; clear hwn)
                  (try (refine hKK _ _ ?_; clear hKK KK))
                  refine wpAny_ready (rs := [10]) (by kernel_rfl) (by simp) ?_
                  refine AllReady.cons rfl (fun KK hKK => ?_) ?_
                  · go_simp
                    go_wp2_with (go_at_call 18; refine (HADD.out w1 p1a p1c (HOD.out.1.below bb1) oo1.1).mono ?_; rintro e w2 ⟨p2a, p2c, rfl, bb2, oo2⟩)
                    (try (refine hKK _ _ ?_; clear hKK KK))
                    refine wpAny_take (i := 11) (v := ?_) rfl (by kernel_rfl) (by kernel_rfl) (by kernel_rfl) (fun _ _ _ h => h) (Or.inl ⟨by rfl, ?_⟩) ?_
                    rotate_left
                    · (intro w9; go_simp) <;> with_reducible rfl
                    refine wpAny_take (i := 12) (v := ?_) rfl (by kernel_rfl) (by kernel_rfl) (by kernel_rfl) (fun _ _ _ h => h) (Or.inl ⟨by rfl, ?_⟩) ?_
                    rotate_left
                    · (intro w9; go_simp) <;> with_reducible rfl
                    refine wpAny_ready (rs := [13]) (by kernel_rfl) (by simp) ?_
                    refine AllReady.cons rfl (fun KK hKK => ?_) ?_
                    · go_simp
                      go_wp2_with (go_at_call 39; refine (redNeed_no _ _).mono ?_; rintro e wn ⟨rfl, hwn⟩; obtain rfl := hwn.symm; clear hwn)
                      exact ⟨rfl, SumPost.no (bel_next (bel_next HBD.out bb1) bb2) HN.out⟩
                    exact AllReady.nil
                  exact AllReady.nil
                exact AllReady.nil
              refine AllReady.cons rfl (fun KK hKK => ?_) ?_
              · go_simp
                go_wp2_with (go_at_call 39; refine (redNeed_yes _ _).mono ?_; rintro e wn ⟨rfl, hwn⟩; obtain rfl := hwn.symm; clear hwn)
                (try (refine hKK _ _ ?_; clear hKK KK))
                refine wpAny_ready (rs := [0]) (by kernel_rfl) (by simp) ?_
                refine AllReady.cons rfl (fun KK hKK => ?_) ?_
                · go_simp
                  (try (refine hKK _ _ ?_; clear hKK KK))
                  refine wpAny_ready (rs := [10]) (by kernel_rfl) (by simp) ?_
                  refine AllReady.cons rfl (fun KK hKK => ?_) ?_
                  · go_simp
                    go_wp2_with (go_at_call 18; refine (HADD.out w1 p1a p1c (HOD.out.1.below bb1) oo1.1).mono ?_; rintro e w2 ⟨p2a, p2c, rfl, bb2, oo2⟩)
                    (try (refine hKK _ _ ?_; clear hKK KK))
                    refine wpAny_take (i := 11) (v := ?_) rfl (by kernel_rfl) (by kernel_rfl) (by kernel_rfl) (fun _ _ _ h => h) (Or.inl ⟨by rfl, ?_⟩) ?_
                    rotate_left
                    · (intro w9; go_simp) <;> with_reducible rfl
                    refine wpAny_take (i := 12) (v := ?_) rfl (by kernel_rfl) (by kernel_rfl) (by kernel_rfl) (fun _ _ _ h => h) (Or.inl ⟨by rfl, ?_⟩) ?_
                    rotate_left
                    · (intro w9; go_simp) <;> with_reducible rfl
                    refine wpAny_ready (rs := [13]) (by kernel_rfl) (by simp) ?_
                    refine AllReady.cons rfl (fun KK hKK => ?_) ?_
                    · go_simp
                      go_wp2_with (go_at_call 39; refine (redNeed_no _ _).mono ?_; rintro e wn ⟨rfl, hwn⟩; obtain rfl := hwn.symm; clear hwn)
                      exact ⟨rfl, SumPost.no (bel_next (bel_next HBD.out bb1) bb2) HN.out⟩
                    exact AllReady.nil
                  exact AllReady.nil
                exact AllReady.nil
              exact AllReady.nil
            exact AllReady.nil
          exact AllReady.nil
        exact AllReady.nil
      · have HN := Hid.mk' ((sumPr_step HS.out).trans hst)
        rw [hw] at hmul
        clear hw hst HNO
        have hadd : ∀ (u : World) (a' : Option Addr) (c' : Nat), RL u a c K → RL u a' c' P → Calls Try.prog 18 #[.slice a K.length c, .slice a' P.length c'] u fun r w' => ∃ a'' c'', r = .returned (.tuple #[.slice a'' (addL K P).length c'', .bool true]) ∧ Below u.heap.size u w' ∧ Out u.heap.size w' a'' c'' (addL K P) := fun u a' c' q1 q2 => by
          have := polAddI u a a' K.length c P.length c' (lf K) (lf P) q1 q2
          rw [show polAdd (lf K) K.length (lf P) P.length = ((addL K P), true) from ha] at this
          exact this
        have HADD := Hid.mk' hadd
        clear hadd ha
        have hs0 : wr.drew.cell? ⟨w0.heap.size, 0, none⟩ = some (.slice a K.length c) := hS.1
        have e2 : wr.drew.cell? ⟨B1, 0, none⟩ = some (.slice (some ⟨b2, off2, none⟩) n c2) := hS.2.1
        have e3 : wr.drew.cell? ⟨b2, off2 + i, none⟩ = some (.slice (ad2 i) (ln2 i) (cp2 i)) := hS.2.2
        have HSS := Hid.mk' hS
        clear hS
        go_wp2_with fail
        go_region_with (first
          | (go_at_call 17; refine hmul.mono ?_; rintro e w1 ⟨p1a, p1c, rfl, bb1, oo1⟩; have hs1 := (HSS.out.below bb1).1)
          | (go_at_call 18; refine (HADD.out w1 p1a p1c (HOD.out.1.below bb1) oo1.1).mono ?_; rintro e w2 ⟨p2a, p2c, rfl, bb2, oo2⟩; have hz2 := HZ.out w1 w2 bb1 bb2; have hs2 := ((HSS.out.below bb1).below bb2).1)
          | (go_at_call 39; refine (redNeed_yes _ _).mono ?_; rintro e wn ⟨rfl, hwn⟩; obtain rfl := hwn.symm; clear hwn))
        all_goals
          have HB2 := Hid.mk' (bel_next (bel_next HBD.out bb1) bb2)
          have hz1 : w0.heap.size + 1 ≤ w1.heap.size := World.block_lt_of_cell? w1 _ hs1
          have HO2 := Hid.mk' ((oo2.low hz1).set (o := 0) (v := .slice p2a (addL K P).length p2c) (Nat.lt_succ_self _))
          have HC2 : Hid ((w2.setCell ⟨w0.heap.size, 0, none⟩ (.slice p2a (addL K P).length p2c)).cell? ⟨w0.heap.size, 0, none⟩ = some (.slice p2a (addL K P).length p2c)) := by
            show _ = _
            simp [go_sem, hs2]
          have HF2 : Hid ((w2.setCell ⟨w0.heap.size, 0, none⟩ (.slice p2a (addL K P).length p2c)).frozen? ⟨w0.heap.size, 0, none⟩ = false) := by
            show _ = _
            simp [go_sem, hz2]
          go_wp2
          go_roundw
          case rel => exact ⟨i + 1, addL K P, p2a, p2c, by omega, by go_num, HN.out, hok, HB2.out.setCell (Nat.le_refl _) _, HC2.out, HF2.out, HO2.out⟩
          case measure => simp [intOf]; omega
    · have hnl : ¬ (i : Int) < (n : Int) := by omega
      have hie : i = n := by omega
      subst hie
      go_wp2
      go_end0
      exact SumPost.yes HB.out HS.out HK.out HCL.out HO.out
end Go.Proofs.Ytfjmpempemingaa
namespace Go.Proofs.Ytfjmpempemingaa
open Go.RowKit Go.Deep Go.Joins
set_option linter.unusedVariables false

theorem RdS.below2 {w w' : World} {a : Option Addr} {n cap : Nat} {ad : Nat → Option Addr} {ln cp : Nat → Nat} {f : Nat → Nat → T} (h : RdS w a n cap ad ln cp f) (hb : Below w.heap.size w w') : RdS w' a n cap ad ln cp f := h.below hb
set_option maxRecDepth 100000 in
set_option maxHeartbeats 8000000 in
theorem redSumI (w : World) (a1 : Option Addr) (n1 c1 : Nat) (ad1 : Nat → Option Addr) (ln1 cp1 : Nat → Nat) (f1 : Nat → Nat → T) (h1 : RdS w a1 n1 c1 ad1 ln1 cp1 f1) (a2 : Option Addr) (n2 c2 : Nat) (ad2 : Nat → Option Addr) (ln2 cp2 : Nat → Nat) (f2 : Nat → Nat → T) (h2 : RdS w a2 n2 c2 ad2 ln2 cp2 f2) :
    Calls Try.prog 14 #[.slice a1 n1 c1, .slice a2 n2 c2] w fun r w' => ∃ a c, r = .returned (.tuple #[.slice a (redSum n1 ln1 f1 n2 ln2 f2).1.length c, .bool (redSum n1 ln1 f1 n2 ln2 f2).2]) ∧ Below w.heap.size w w' ∧ Out w.heap.size w' a c (redSum n1 ln1 f1 n2 ln2 f2).1 := by
  have q1 : (n1 : Int) ≤ 140737488351232 := by have := h1.2.1; omega
  have q2 : (n2 : Int) ≤ 140737488351232 := by have := h2.2.1; omega
  have HB0 := Hid.mk' (bel_two w (.cells #[.slice a1 n1 c1] 24) (.cells #[.slice a2 n2 c2] 24))
  have H1 := Hid.mk' (h1.below HB0.out)
  have H2 := Hid.mk' (h2.below HB0.out)
  clear h1 h2
  by_cases hn : n1 = n2 ∧ n2 ≤ 12
  · obtain ⟨hn1, hn2⟩ := hn
    have HE : Hid (redSum n1 ln1 f1 n2 ln2 f2 = mulO (sumPr ln1 f1 ln2 f2 n2)) := if_pos ⟨hn1, hn2⟩
    subst hn1
    have hne : ((n1 : Int) != (n1 : Int)) = false := by simp
    have hng : ¬ (12 : Int) < (n1 : Int) := by omega
    have hsz : ((w.alloc (.cells #[.slice a1 n1 c1] 24)).alloc (.cells #[.slice a2 n1 c2] 24)).heap.size = w.heap.size + 2 := by simp
    have k0 : ((w.alloc (.cells #[.slice a1 n1 c1] 24)).alloc (.cells #[.slice a2 n1 c2] 24)).cell? ⟨w.heap.size, 0, none⟩ = some (.slice a1 n1 c1) := by simp [go_sem]
    have k1 : ((w.alloc (.cells #[.slice a1 n1 c1] 24)).alloc (.cells #[.slice a2 n1 c2] 24)).cell? ⟨w.heap.size + 1, 0, none⟩ = some (.slice a2 n1 c2) := by
      simp [go_sem]
    obtain ⟨w0, hw0⟩ : ∃ w0, ((w.alloc (.cells #[.slice a1 n1 c1] 24)).alloc (.cells #[.slice a2 n1 c2] 24)) = w0 := ⟨_, rfl⟩
    have HS1 : Hid (Calls Try.prog 38 #[.pointer (some ⟨w.heap.size, 0, none⟩), .pointer (some ⟨w.heap.size + 2, 0, none⟩), .pointer (some ⟨w.heap.size + 1, 0, none⟩)] (((w.alloc (.cells #[.slice a1 n1 c1] 24)).alloc (.cells #[.slice a2 n1 c2] 24)).alloc (.cells #[.slice none 0 0] 23)) fun r w' => SumPost w0 (sumPr ln1 f1 ln2 f2 n1) r w') := by
      have := sum1I ((w.alloc (.cells #[.slice a1 n1 c1] 24)).alloc (.cells #[.slice a2 n1 c2] 24)) (((w.alloc (.cells #[.slice a1 n1 c1] 24)).alloc (.cells #[.slice a2 n1 c2] 24)).alloc (.cells #[.slice none 0 0] 23)) w.heap.size (w.heap.size + 1) n1 a1 c1 ad1 ln1 cp1 f1 H1.out a2 c2 ad2 ln2 cp2 f2 H2.out k0 k1 (bel_one _ _) (by rw [World.cell?_alloc_at _ _ _ _ rfl]; rfl) (by rw [World.frozen?_alloc_at _ _ _ _ rfl])
      rw [hsz, hw0] at this
      rw [hw0]
      exact this
    have hsz0 : w0.heap.size = w.heap.size + 2 := by rw [← hw0]; exact hsz
    have hBw : Below w.heap.size w w0 := by rw [← hw0]; exact HB0.out
    have HBW := Hid.mk' hBw
    clear hBw k0 k1
    cases hS : sumPr ln1 f1 ln2 f2 n1 with
    | some K =>
      have e2 : redSum n1 ln1 f1 n1 ln2 f2 = (K, true) := by rw [HE.out, hS]; rfl
      rw [e2]
      have HC := Hid.mk' (redEnds_yes 38 #[.pointer (some ⟨w.heap.size, 0, none⟩), .pointer (some ⟨w.heap.size + 2, 0, none⟩), .pointer (some ⟨w.heap.size + 1, 0, none⟩)] (((w.alloc (.cells #[.slice a1 n1 c1] 24)).alloc (.cells #[.slice a2 n1 c2] 24)).alloc (.cells #[.slice none 0 0] 23)) (fun w' => Below w0.heap.size w0 w' ∧ ∃ a c, w'.cell? ⟨w.heap.size + 2, 0, none⟩ = some (.slice a K.length c) ∧ Out (w.heap.size + 3) w' a c K) (enters_of Try.func38 (by kernel_rfl) rfl) (HS1.out.mono fun r w' h => by
        rw [hS] at h
        rcases h.2 with ⟨K', a, c, hK, _, hr, hcl, ho⟩ | ⟨hno, _⟩
        · cases hK
          rw [hsz0] at hcl ho
          exact ⟨hr, h.1, a, c, hcl, ho⟩
        · cases hno))
      clear HS1 e2 hS hw0 hsz
      go_enter Try.func14, Try.ntmps14
      go_wp2_with fail
      refine HC.out.mono ?_
      rintro r w3 ⟨rfl, w1, ⟨hb, a, c, hcl, hout⟩, rfl⟩
      have g1 : (w1.alloc (.cells #[] 90)).cell? ⟨w.heap.size + 2, 0, none⟩ = some (.slice a K.length c) := ((bel_one w1 _).cell (p := ⟨w.heap.size + 2, 0, none⟩) (World.block_lt_of_cell? w1 _ hcl)).trans hcl
      have HB3 := Hid.mk' (bel_next (bel_next HBW.out hb) (bel_one w1 (.cells #[] 90)))
      have HO3 := Hid.mk' ((hout.below (bel_one w1 (.cells #[] 90))).low (lo' := w.heap.size) (by omega))
      clear hb hcl hout HC
      go_wp2
      refine bodyPost_ret (results_tmp2 rfl _ _ _) rfl ?_
      exact ⟨a, c, rfl, HB3.out, HO3.out⟩
    | none =>
      have e2 : redSum n1 ln1 f1 n1 ln2 f2 = ([], false) := by rw [HE.out, hS]; rfl
      rw [e2]
      have HC := Hid.mk' (redEnds_no 38 #[.pointer (some ⟨w.heap.size, 0, none⟩), .pointer (some ⟨w.heap.size + 2, 0, none⟩), .pointer (some ⟨w.heap.size + 1, 0, none⟩)] (((w.alloc (.cells #[.slice a1 n1 c1] 24)).alloc (.cells #[.slice a2 n1 c2] 24)).alloc (.cells #[.slice none 0 0] 23)) (fun w' => Below w0.heap.size w0 w') (enters_of Try.func38 (by kernel_rfl) rfl) (HS1.out.mono fun r w' h => by
        rw [hS] at h
        rcases h.2 with ⟨K', a, c, hK, _⟩ | ⟨_, hr⟩
        · cases hK
        · exact ⟨hr, h.1⟩))
      clear HS1 e2 hS hw0 hsz
      go_enter Try.func14, Try.ntmps14
      go_wp2_with fail
      refine HC.out.mono ?_
      rintro r w3 ⟨rfl, w1, hb, rfl⟩
      have HB3 := Hid.mk' (bel_next (bel_next HBW.out hb) (bel_one w1 (.cells #[] 90)))
      clear hb HC
      go_wp2
      refine bodyPost_ret (results_tmp2 rfl _ _ _) rfl ?_
      exact ⟨none, 0, rfl, HB3.out, Out.nil _ _⟩
  · have HE : Hid (redSum n1 ln1 f1 n2 ln2 f2 = ([], false)) := if_neg hn
    by_cases he : n1 = n2
    · subst he
      have hne : ((n1 : Int) != (n1 : Int)) = false := by simp
      have hng : (12 : Int) < (n1 : Int) := by omega
      go_enter Try.func14, Try.ntmps14
      go_wp2
      refine bodyPost_ret (results_tmp2 rfl _ _ _) rfl ?_
      rw [HE.out]
      exact ⟨none, 0, rfl, HB0.out, Out.nil _ _⟩
    · have hne : ((n1 : Int) != (n2 : Int)) = true := by simp; omega
      go_enter Try.func14, Try.ntmps14
      go_wp2
      refine bodyPost_ret (results_tmp2 rfl _ _ _) rfl ?_
      rw [HE.out]
      exact ⟨none, 0, rfl, HB0.out, Out.nil _ _⟩
end Go.Proofs.Ytfjmpempemingaa
namespace Go.Proofs.Ytfjmpempemingaa
open Go.RowKit Go.Deep Go.Joins
set_option linter.unusedVariables false

/-- lists of operators, by their places. -/
abbrev fN (L : Nat → List T) : Nat → Nat → T := fun i => lf (L i)
abbrev lN (L : Nat → List T) : Nat → Nat := fun i => (L i).length
theorem ldAt_L (o : Int) (L : Nat → List T) (i : Nat) : ldAt o (lN L) (fN L) i = ldL o (L i) := rfl
theorem mulM1_wm {t : T} {B Y : List T} (ht : okL [t] = true) (hB : okL B = true) (h : mulM (lf [t]) (lf B) B.length 1 = some Y) : wmV [t] B = (Y, true) := by
  unfold wmV wylMul
  rw [if_pos ⟨ht, hB⟩]
  show mulO (mulM (lf [t]) (lf B) B.length 1) = _
  rw [h]; rfl
/-- what stands in a sum. -/
theorem mem_add {A B : List T} (hA : Falls A) (hB : Falls B) {s : T} (hs : s ∈ addL A B) : (∃ a ∈ A, a.m = s.m) ∨ (∃ b ∈ B, b.m = s.m) := by
  obtain ⟨hf, hc⟩ := addL_facts hA hB
  have h1 := (mem_coefV hf hs).2
  rw [hc] at h1
  by_cases ha : coef A s.m = 0
  · by_cases hb : coef B s.m = 0
    · rw [ha, hb] at h1; exact absurd rfl h1
    · obtain ⟨b, h2, h3⟩ := List.mem_map.1 (coef_mem hb)
      exact .inr ⟨b, h2, h3⟩
  · obtain ⟨a, h2, h3⟩ := List.mem_map.1 (coef_mem ha)
    exact .inl ⟨a, h2, h3⟩
theorem mem_sc {c : Int} {A : List T} {s : T} (hs : s ∈ scL c A) : ∃ a ∈ A, a.m = s.m := by
  rw [scL_map] at hs
  obtain ⟨a, h1, rfl⟩ := List.mem_map.1 hs
  exact ⟨a, h1, rfl⟩
theorem mem_sub {A B : List T} (hA : Falls A) (hB : Falls B) {s : T} (hs : s ∈ subL A B) : (∃ a ∈ A, a.m = s.m) ∨ (∃ b ∈ B, b.m = s.m) := by
  rcases mem_add hA (scL_falls (by omega) (by omega) hB) hs with h | ⟨b, h1, h2⟩
  · exact .inl h
  · obtain ⟨a, h3, h4⟩ := mem_sc h1
    exact .inr ⟨a, h3, h4.trans h2⟩
/-- how a step goes. -/
theorem dvStep_cases {o : Int} {n : Nat} {L : Nat → List T} (hl : lstOk n (lN L) (fN L) = true) {S S' : Dv} (hp : okL S.p = true) (h0 : S.p.length ≠ 0) (hs : dvStep o n (lN L) (fN L) S = some S') :
    (∃ k Y, k < n ∧ M.dvd (ldL o (L k)).m (ldL o S.p).m = true ∧ okL [overT (ldL o S.p) (ldL o (L k))] = true ∧ wmV [overT (ldL o S.p) (ldL o (L k))] (L k) = (Y, true) ∧ (subL S.p Y).length ≤ 400 ∧ S' = ⟨subL S.p Y, updQ S.q k (addL (S.q k) [overT (ldL o S.p) (ldL o (L k))]), S.r⟩) ∨
    ((∀ i, i < n → M.dvd (ldL o (L i)).m (ldL o S.p).m = false) ∧ S' = dvLeave o S) := by
  unfold dvStep at hs
  split at hs
  · rename_i hk
    have hf := dvK_facts hk
    have hg := dvT_good hl hp h0 hk
    generalize (dvK o n (lN L) (fN L) (ldL o S.p).m).toNat = k at hs hf hg
    unfold dvTake at hs
    split at hs
    · cases hs
    · rename_i Y hY
      split at hs
      · rename_i hle
        cases hs
        have ho := one_ok hg
        exact .inl ⟨k, Y, hf.1, hf.2, ho, mulM1_wm ho ((lstOk_all hl).2 k hf.1).2 hY, hle, rfl⟩
      · cases hs
  · rename_i hk
    cases hs
    refine .inr ⟨fun i hi => ?_, rfl⟩
    cases hd : M.dvd (ldL o (L i)).m (ldL o S.p).m
    · rfl
    · exact absurd (idx_iff.2 ⟨i, hi, hd⟩) hk
/-- whatever a step keeps, a division keeps. -/
theorem dvRun_keeps {o : Int} {n : Nat} {L : Nat → List T} (hl : lstOk n (lN L) (fN L) = true) (I : Dv → Prop) (hI : ∀ u S S', DvOk u S → S.p.length ≠ 0 → I S → dvStep o n (lN L) (fN L) S = some S' → I S') :
    ∀ {v u : Nat} {S S' : Dv}, DvOk u S → I S → dvRun o n (lN L) (fN L) v S = some S' → I S'
  | 0, u, S, S', h, hi, hr => by
    unfold dvRun at hr
    split at hr
    · cases hr; exact hi
    · cases hr
  | v + 1, u, S, S', h, hi, hr => by
    by_cases h0 : S.p.length = 0
    · rw [dvRun_done h0] at hr
      cases hr
      exact hi
    · cases hs : dvStep o n (lN L) (fN L) S with
      | none => rw [dvRun_no h0 hs] at hr; cases hr
      | some S1 =>
        rw [dvRun_step h0 hs] at hr
        exact dvRun_keeps hl I hI (dvStep_ok hl h h0 hs) (hI u S S1 h h0 hi hs) hr
theorem redAll_some {o : Int} {p : List T} {n : Nat} {L : Nat → List T} {S : Dv} (h : redAll o p n (lN L) (fN L) = some S) : (1 ≤ o ∧ o ≤ 3) ∧ okL p = true ∧ lstOk n (lN L) (fN L) = true ∧ dvRun o n (lN L) (fN L) 300 (dvOf p) = some S := by
  unfold redAll at h
  split at h
  · rename_i hh
    exact ⟨hh.1, hh.2.1, hh.2.2, h⟩
  · cases h
theorem redAll_keeps {o : Int} {p : List T} {n : Nat} {L : Nat → List T} {S : Dv} (h : redAll o p n (lN L) (fN L) = some S) (I : Dv → Prop) (h0 : I (dvOf p)) (hI : ∀ u S S', DvOk u S → S.p.length ≠ 0 → I S → dvStep o n (lN L) (fN L) S = some S' → I S') : I S := by
  obtain ⟨_, h2, h3, h4⟩ := redAll_some h
  exact dvRun_keeps h3 I hI (DvOk.start h2) h0 h4
theorem redAll_ok {o : Int} {p : List T} {n : Nat} {L : Nat → List T} {S : Dv} (h : redAll o p n (lN L) (fN L) = some S) : DvOk 300 S ∧ S.p = [] := by
  obtain ⟨_, h2, h3, h4⟩ := redAll_some h
  have := dvRun_ok h3 (DvOk.start h2) h4
  exact ⟨by simpa using this.1, this.2⟩
/-! all that is taken, and what is left -/
theorem sumN_upd (F : Nat → Lq) (X : Lq) (k : Nat) : ∀ n, k < n → Lq.sumN (fun i => if i = k then Lq.sum (F i) X else F i) n = Lq.sum (Lq.sumN F n) X
  | 0, h => by omega
  | n + 1, h => by
    rw [Lq.sumN, Lq.sumN]
    by_cases e : k = n
    · subst e
      rw [if_pos rfl, Lq.sumN_congr (g := F) (fun i hi => if_neg (by omega)), Lq.sum_assoc]
    · rw [sumN_upd F X k n (by omega), if_neg (fun h => e h.symm), Lq.sum_assoc, Lq.sum_assoc, Lq.sum_comm X]
def qsum (g : Gen) (n : Nat) (L : Nat → List T) (q : Nat → List T) : Lq := Lq.sumN (fun i => Lq.mul (Rp g (q i)) (Rp g (L i))) n
theorem sumN_nils : ∀ n, Lq.sumN (fun _ => Lq.nil) n = Lq.nil
  | 0 => rfl
  | n + 1 => by rw [Lq.sumN, sumN_nils n, Lq.sum_nil]
theorem qsum_nil (g : Gen) (n : Nat) (L : Nat → List T) : qsum g n L (fun _ => []) = Lq.nil := by
  unfold qsum
  rw [Lq.sumN_congr (g := fun _ => Lq.nil) (fun i _ => by rw [Rp_nil, Lq.nil_mul]), sumN_nils]
theorem qsum_upd (g : Gen) {n : Nat} {L q : Nat → List T} {k : Nat} {t : T} (hk : k < n) (hq : Falls (q k)) (ht : okL [t] = true) : qsum g n L (updQ q k (addL (q k) [t])) = Lq.sum (qsum g n L q) (Lq.mul (Rp g [t]) (Rp g (L k))) := by
  unfold qsum
  rw [← sumN_upd _ _ k n hk]
  refine Lq.sumN_congr (fun i _ => ?_)
  unfold updQ
  split
  · rename_i e
    subst e
    rw [Rp_add g hq (okL_falls ht).2, Lq.sum_mul]
  · rfl
theorem redAll_all (g : Gen) {o : Int} {p : List T} {n : Nat} {L : Nat → List T} {S : Dv} (h : redAll o p n (lN L) (fN L) = some S) : Lq.sum (qsum g n L S.q) (Rp g S.r) = Rp g p := by
  obtain ⟨_, h2, h3, h4⟩ := redAll_some h
  have key := redAll_keeps h (fun S => Lq.sum (qsum g n L S.q) (Lq.sum (Rp g S.r) (Rp g S.p)) = Rp g p) (by
    show Lq.sum (qsum g n L (fun _ => [])) (Lq.sum (Rp g []) (Rp g p)) = _
    rw [qsum_nil, Rp_nil]
    exact Lq.ext fun u i j => by show (0 : Fq) + (0 + _) = _; grind) (fun u S S' hok h0 hI hs => by
    rw [← hI]
    rcases dvStep_cases h3 hok.p h0 hs with ⟨k, Y, hk, _, ho, hY, _, rfl⟩ | ⟨_, rfl⟩
    · show Lq.sum (qsum g n L (updQ S.q k _)) (Lq.sum (Rp g S.r) (Rp g (subL S.p Y))) = _
      rw [qsum_upd g hk (hok.q k).1 ho, Rp_sub g (okL_falls hok.p).2 (wm_falls hY), Rp_mul g hY]
      exact Lq.ext fun u i j => by
        show _ + _ + (_ + (_ + zz 100 * _)) = _ + (_ + _)
        have e : zz 100 = 100 := rfl
        rw [e]
        grind
    · show Lq.sum (qsum g n L S.q) (Lq.sum (Rp g (addL S.r [ldL o S.p])) (Rp g (subL S.p [ldL o S.p]))) = _
      have f1 := fallsOne (ldL_good (o := o) (okL_falls hok.p).2 h0)
      rw [Rp_add g hok.r.1 f1, Rp_sub g (okL_falls hok.p).2 f1]
      exact Lq.ext fun u i j => by
        show _ + (_ + _ + (_ + zz 100 * _)) = _ + (_ + _)
        have e : zz 100 = 100 := rfl
        rw [e]
        grind)
  have hp := (redAll_ok h).2
  rw [hp, Rp_nil, Lq.sum_nil] at key
  exact key
/-- a sum of products, as one map. -/
theorem sumPr_Rp (g : Gen) {L q : Nat → List T} : ∀ n K, sumPr (lN q) (fN q) (lN L) (fN L) n = some K → Rp g K = qsum g n L q ∧ okL K = true
  | 0, K, h => by cases h; exact ⟨rfl, okL_nil⟩
  | n + 1, K, h => by
    cases hs : sumPr (lN q) (fN q) (lN L) (fN L) n with
    | none => have := sumPr_none hs 1; rw [this] at h; cases h
    | some K1 =>
      rw [sumPr_step hs] at h
      obtain ⟨h1, h2⟩ := sumPr_Rp g n K1 hs
      rcases step_cases h2 (lf (q n)) (q n).length (lf (L n)) (L n).length with ⟨_, _, e⟩ | ⟨_, _, _, _, e⟩ | ⟨P, _, _, _, _, _, _, _, e⟩ | ⟨P, _, _, hm, hw, hP, hl, _, e, ho⟩
      · rw [e] at h; cases h
      · rw [e] at h; cases h
      · rw [e] at h; cases h
      · rw [e] at h
        cases h
        refine ⟨?_, ho⟩
        rw [Rp_add g (okL_falls h2).2 (okL_falls hP).2, h1, Rp_mul g (show wmV (q n) (L n) = (P, true) from hw)]
        rfl
theorem redSum_Rp (g : Gen) {L q : Nat → List T} {n : Nat} {K : List T} (h : redSum n (lN q) (fN q) n (lN L) (fN L) = (K, true)) : Rp g K = qsum g n L q ∧ okL K = true := by
  unfold redSum at h
  split at h
  · cases hs : sumPr (lN q) (fN q) (lN L) (fN L) n with
    | none => rw [hs] at h; cases h
    | some K1 =>
      rw [hs] at h
      have : K1 = K := by simpa [mulO] using h
      subst this
      exact sumPr_Rp g n K1 hs
  · cases h
/-- WHAT IS TAKEN, AND WHAT IS LEFT, IS ALL. -/
theorem red_all {o : Int} {p : List T} {n : Nat} {L : Nat → List T} {S : Dv} (h : redAll o p n (lN L) (fN L) = some S) {K A : List T} (hK : redSum n (lN S.q) (fN S.q) n (lN L) (fN L) = (K, true)) (hA : addV K S.r = (A, true)) : A = p := by
  obtain ⟨_, h2, _, _⟩ := redAll_some h
  obtain ⟨e1, ok1⟩ := redSum_Rp stdG hK
  rcases addV_case K S.r with e | ⟨_, oR, hle, e⟩
  · rw [e] at hA; cases hA
  · rw [e] at hA
    cases hA
    refine eq_of_Rp (addL_facts (okL_falls ok1).2 (okL_falls oR).2).1 (okL_falls h2).2 ?_
    rw [Rp_add stdG (okL_falls ok1).2 (okL_falls oR).2, e1, redAll_all stdG h]
/-! what is left is free -/
theorem red_free {o : Int} {p : List T} {n : Nat} {L : Nat → List T} {S : Dv} (h : redAll o p n (lN L) (fN L) = some S) : ∀ t ∈ S.r, ∀ i, i < n → M.dvd (ldL o (L i)).m t.m = false := by
  obtain ⟨_, h2, h3, h4⟩ := redAll_some h
  refine redAll_keeps h (fun S => ∀ t ∈ S.r, ∀ i, i < n → M.dvd (ldL o (L i)).m t.m = false) (fun t ht => by cases ht) (fun u S S' hok h0 hI hs => ?_)
  rcases dvStep_cases h3 hok.p h0 hs with ⟨k, Y, _, _, _, _, _, rfl⟩ | ⟨hno, rfl⟩
  · exact hI
  · intro t ht i hi
    rcases mem_add hok.r.1 (fallsOne (ldL_good (o := o) (okL_falls hok.p).2 h0)) ht with ⟨a, ha, e⟩ | ⟨b, hb, e⟩
    · rw [← e]; exact hI a ha i hi
    · rw [← e, List.mem_singleton.1 hb]; exact hno i hi
theorem redFree_left {o : Int} {p : List T} {n : Nat} {L : Nat → List T} {S : Dv} (h : redAll o p n (lN L) (fN L) = some S) : redFree o S.r.length (lf S.r) n (lN L) (fN L) = true := by
  obtain ⟨h1, h2, h3, h4⟩ := redAll_some h
  obtain ⟨hd, _⟩ := redAll_ok h
  unfold redFree
  refine decide_eq_true ⟨h1, okL_of (by have := hd.r.2; omega) hd.r.1, h3, fun k hk i hi => ?_⟩
  exact red_free h _ (lf_mem hk) i hi
/-! nothing is greater -/
theorem over_sum {t l : T} (hd : M.dvd l.m t.m = true) : (overT t l).m.sum l.m = t.m := by
  have h := sum_over hd
  unfold M.mul at h
  split at h
  · exact congrArg Prod.fst h
  · exact absurd (congrArg Prod.snd h) (by simp)
theorem prod_top {o : Int} (ho : 1 ≤ o ∧ o ≤ 3) {t : T} {B Y : List T} (hB : okL B = true) (hB0 : B.length ≠ 0) (h : wmV [t] B = (Y, true)) : ∀ s ∈ Y, rkW o s.m ≤ rkW o t.m + rkW o (ldL o B).m := fun s hs => by
  have := (lead_prod (rkW_wt o) rkW_inj h (List.mem_singleton.2 rfl) (ldL_mem (o := o) hB0) (fun a ha => by rw [List.mem_singleton.1 ha]; exact Int.le_refl _) (ldL_top ho hB hB0)).2 s hs
  rw [(rkW_wt o t.m (ldL o B).m 0 0).2] at this
  exact this
theorem red_lead {o : Int} {p : List T} {n : Nat} {L : Nat → List T} {S : Dv} (h : redAll o p n (lN L) (fN L) = some S) {N : Int} (hN : ∀ t ∈ p, rkW o t.m ≤ N) : (∀ t ∈ S.r, rkW o t.m ≤ N) ∧ ∀ i, i < n → ∀ s ∈ S.q i, (s.m.sum (ldL o (L i)).m).ok = true ∧ rkW o (s.m.sum (ldL o (L i)).m) ≤ N := by
  obtain ⟨h1, h2, h3, h4⟩ := redAll_some h
  have key := redAll_keeps h (fun S => (∀ t ∈ S.p, rkW o t.m ≤ N) ∧ (∀ t ∈ S.r, rkW o t.m ≤ N) ∧ ∀ i, i < n → ∀ s ∈ S.q i, (s.m.sum (ldL o (L i)).m).ok = true ∧ rkW o (s.m.sum (ldL o (L i)).m) ≤ N) ⟨hN, ⟨fun t ht => absurd ht (List.not_mem_nil), fun i _ s hs => absurd hs (List.not_mem_nil)⟩⟩ (fun u S S' hok h0 hI hs => by
    obtain ⟨i1, i2, i3⟩ := hI
    have hl := ldL_mem (o := o) h0
    have hg := ldL_good (o := o) (okL_falls hok.p).2 h0
    rcases dvStep_cases h3 hok.p h0 hs with ⟨k, Y, hk, hd, ho, hY, _, rfl⟩ | ⟨hno, rfl⟩
    · have hk2 := (lstOk_all h3).2 k hk
      have htop := prod_top h1 hk2.2 hk2.1 hY
      have hsum := over_sum hd
      have hw := (rkW_wt o (overT (ldL o S.p) (ldL o (L k))).m (ldL o (L k)).m 0 0).2
      rw [hsum] at hw
      refine ⟨fun t ht => ?_, i2, fun i hi s hs => ?_⟩
      · rcases mem_sub (okL_falls hok.p).2 (wm_falls hY) ht with ⟨a, ha, e⟩ | ⟨b, hb, e⟩
        · rw [← e]; exact i1 a ha
        · rw [← e]
          have := htop b hb
          have := i1 _ hl
          omega
      · change s ∈ updQ S.q k _ i at hs
        unfold updQ at hs
        split at hs
        · rename_i e
          subst e
          rcases mem_add (hok.q i).1 (okL_falls ho).2 hs with ⟨a, ha, e⟩ | ⟨b, hb, e⟩
          · rw [← e]; exact i3 i hi a ha
          · rw [← e, List.mem_singleton.1 hb, hsum]
            exact ⟨hg.1, i1 _ hl⟩
        · exact i3 i hi s hs
    · refine ⟨fun t ht => ?_, fun t ht => ?_, i3⟩
      · rcases mem_sub (okL_falls hok.p).2 (fallsOne hg) ht with ⟨a, ha, e⟩ | ⟨b, hb, e⟩
        · rw [← e]; exact i1 a ha
        · rw [← e, List.mem_singleton.1 hb]; exact i1 _ hl
      · rcases mem_add hok.r.1 (fallsOne hg) ht with ⟨a, ha, e⟩ | ⟨b, hb, e⟩
        · rw [← e]; exact i2 a ha
        · rw [← e, List.mem_singleton.1 hb]; exact i1 _ hl)
  exact ⟨key.2.1, key.2.2⟩
/-! who is free is left -/
theorem run_free {o : Int} {n : Nat} {L : Nat → List T} : ∀ (v : Nat) (S : Dv), okL S.p = true → Falls S.r → S.p.length ≤ v → (∀ t ∈ S.p, ∀ i, i < n → M.dvd (ldL o (L i)).m t.m = false) → ∃ r, dvRun o n (lN L) (fN L) v S = some ⟨[], S.q, r⟩ ∧ Falls r ∧ ∀ m, coef r m = (coef S.r m + coef S.p m) % 101
  | 0, S, hp, hr, hv, hf => by
    have h0 : S.p.length = 0 := by omega
    have e : S.p = [] := List.length_eq_zero_iff.1 h0
    refine ⟨S.r, ?_, hr, fun m => ?_⟩
    · rw [dvRun_done h0]; cases S; cases e; rfl
    · rw [e, coef_nil]; have := coef_range hr m; omega
  | v + 1, S, hp, hr, hv, hf => by
    by_cases h0 : S.p.length = 0
    · have e : S.p = [] := List.length_eq_zero_iff.1 h0
      refine ⟨S.r, ?_, hr, fun m => ?_⟩
      · rw [dvRun_done h0]; cases S; cases e; rfl
      · rw [e, coef_nil]; have := coef_range hr m; omega
    · have hl := ldL_mem (o := o) h0
      have hg := ldL_good (o := o) (okL_falls hp).2 h0
      have hst : dvStep o n (lN L) (fN L) S = some (dvLeave o S) := by
        unfold dvStep
        rw [if_neg]
        intro hk
        obtain ⟨i, hi, h1⟩ := idx_iff.1 hk
        exact absurd ((hf _ hl i hi).symm.trans h1) (by simp)
      have hlt := sub_one_len (okL_falls hp).2 hl
      have fs := subL_facts (okL_falls hp).2 (fallsOne hg)
      have fr := addL_facts hr (fallsOne hg)
      have h4 := (okL_falls hp).1
      obtain ⟨r, e1, e2, e3⟩ := run_free v (dvLeave o S) (okL_of (show (subL S.p [ldL o S.p]).length ≤ 400 by omega) fs.1) fr.1 (show (subL S.p [ldL o S.p]).length ≤ v by omega) (fun t ht i hi => by
        rcases mem_sub (okL_falls hp).2 (fallsOne hg) (show t ∈ subL S.p [ldL o S.p] from ht) with ⟨a, ha, e⟩ | ⟨b, hb, e⟩
        · rw [← e]; exact hf a ha i hi
        · rw [← e, List.mem_singleton.1 hb]; exact hf _ hl i hi)
      refine ⟨r, by rw [dvRun_step h0 hst]; exact e1, e2, fun m => ?_⟩
      rw [e3]
      show (coef (addL S.r [ldL o S.p]) m + coef (subL S.p [ldL o S.p]) m) % 101 = _
      rw [fr.2, fs.2]
      omega
theorem redAll_free {o : Int} {p : List T} {n : Nat} {L : Nat → List T} (ho : 1 ≤ o ∧ o ≤ 3) (hp : okL p = true) (hl : lstOk n (lN L) (fN L) = true) (hv : p.length ≤ 300) (hf : ∀ t ∈ p, ∀ i, i < n → M.dvd (ldL o (L i)).m t.m = false) : redAll o p n (lN L) (fN L) = some ⟨[], fun _ => [], p⟩ := by
  unfold redAll
  rw [if_pos ⟨ho, hp, hl⟩]
  obtain ⟨r, e1, e2, e3⟩ := run_free (o := o) (n := n) (L := L) 300 (dvOf p) hp falls_nil hv hf
  rw [e1]
  have : r = p := falls_one e2 (okL_falls hp).2 (fun m _ => by
    rw [e3]
    show (coef [] m + coef p m) % 101 = _
    rw [coef_nil]
    have := coef_range (okL_falls hp).2 m
    omega)
  rw [this]; rfl
theorem redAll_again {o : Int} {p : List T} {n : Nat} {L : Nat → List T} {S : Dv} (h : redAll o p n (lN L) (fN L) = some S) : redAll o S.r n (lN L) (fN L) = some ⟨[], fun _ => [], S.r⟩ := by
  obtain ⟨h1, h2, h3, h4⟩ := redAll_some h
  obtain ⟨hd, _⟩ := redAll_ok h
  exact redAll_free h1 (okL_of (by have := hd.r.2; omega) hd.r.1) h3 (by have := hd.r.2; omega) (red_free h)
/-! so many times an operator -/
def scD (c : Int) (S : Dv) : Dv := ⟨scL c S.p, fun i => scL c (S.q i), scL c S.r⟩
theorem lf_sc (c : Int) (L : List T) {i : Nat} (h : i < L.length) : lf (scL c L) i = scT1 c (lf L i) := by
  have h2 : i < (scL c L).length := by rw [scL_len]; exact h
  rw [lf_eq h2, lf_eq h]
  simp only [scL_map, List.getElem_map]
  rfl
theorem leadFrom_sc (o : Int) (f g : Nat → T) : ∀ (u i k n : Nat), i + u ≤ n → k < n → (∀ j, j < n → (f j).m = (g j).m) → leadFrom o f u i k = leadFrom o g u i k
  | 0, i, k, n, _, _, _ => rfl
  | u + 1, i, k, n, hi, hk, h => by
    simp only [leadFrom]
    rw [h i (by omega), h k hk]
    split
    · exact leadFrom_sc o f g u (i + 1) i n (by omega) (by omega) h
    · exact leadFrom_sc o f g u (i + 1) k n (by omega) hk h
theorem ldL_sc (o c : Int) {L : List T} (h0 : L.length ≠ 0) : ldL o (scL c L) = scT1 c (ldL o L) := by
  have e : leadAt o (lf (scL c L)) (scL c L).length = leadAt o (lf L) L.length := by
    rw [scL_len]
    exact leadFrom_sc o _ _ (L.length - 1) 1 0 L.length (by omega) (by omega) (fun j hj => by rw [lf_sc c L hj]; rfl)
  unfold ldL
  rw [e, lf_sc c L (leadAt_lt (by omega))]
theorem scL_one (c : Int) (t : T) : scL c [t] = [scT1 c t] := by rw [scL_map]; rfl
theorem subL_sc {c : Int} (c1 : 1 ≤ c) (c2 : c ≤ 100) {K X : List T} (hK : Falls K) (hX : Falls X) : subL (scL c K) (scL c X) = scL c (subL K X) := by
  refine falls_one (subL_facts (scL_falls c1 c2 hK) (scL_falls c1 c2 hX)).1 (scL_falls c1 c2 (subL_facts hK hX).1) (fun m _ => ?_)
  rw [(subL_facts (scL_falls c1 c2 hK) (scL_falls c1 c2 hX)).2, scL_coef, scL_coef, scL_coef, (subL_facts hK hX).2]
  have h1 : (c * ((coef K m + 100 * coef X m % 101) % 101)) % 101 = (c * coef K m + 100 * (c * coef X m)) % 101 := by
    rw [Int.mul_emod, Int.emod_emod_of_dvd _ (Int.dvd_refl 101), ← Int.mul_emod, Int.mul_add, Int.add_emod, Int.mul_emod c (100 * coef X m % 101), Int.emod_emod_of_dvd _ (Int.dvd_refl 101), ← Int.mul_emod c (100 * coef X m), ← Int.add_emod, Int.mul_left_comm]
  rw [h1]
  omega
theorem overT_sc (c : Int) (t l : T) : overT (scT1 c t) l = scT1 c (overT t l) := by
  unfold overT scT1
  simp only [T.mk.injEq, and_true]
  rw [Int.mul_emod (c * t.c % 101), Int.emod_emod_of_dvd _ (Int.dvd_refl 101), ← Int.mul_emod (c * t.c), Int.mul_emod c (t.c * fInv l.c % 101), Int.emod_emod_of_dvd _ (Int.dvd_refl 101), ← Int.mul_emod c, Int.mul_assoc]
theorem dvStep_sc {o : Int} {n : Nat} {L : Nat → List T} (hl : lstOk n (lN L) (fN L) = true) {c : Int} (c1 : 1 ≤ c) (c2 : c ≤ 100) {u : Nat} {S : Dv} (hok : DvOk u S) (h0 : S.p.length ≠ 0) : dvStep o n (lN L) (fN L) (scD c S) = (dvStep o n (lN L) (fN L) S).map (scD c) := by
  have e1 : ldL o (scD c S).p = scT1 c (ldL o S.p) := ldL_sc o c h0
  have hg := ldL_good (o := o) (okL_falls hok.p).2 h0
  unfold dvStep
  rw [e1, show (scT1 c (ldL o S.p)).m = (ldL o S.p).m from rfl]
  split
  · rename_i hk
    have hf := dvK_facts hk
    have hgt := dvT_good hl hok.p h0 hk
    generalize (dvK o n (lN L) (fN L) (ldL o S.p).m).toNat = k at hf hgt
    have e2 : dvT o (lN L) (fN L) (scD c S) k = scT1 c (dvT o (lN L) (fN L) S k) := by
      unfold dvT
      rw [e1, overT_sc]
    have hB := ((lstOk_all hl).2 k hf.1).2
    have hm := mulM_sc (f := lf [dvT o (lN L) (fN L) S k]) (f2 := lf [scT1 c (dvT o (lN L) (fN L) S k)]) c1 c2 (good_ok (show polOk 1 (lf [dvT o (lN L) (fN L) S k]) = true from one_ok hgt)).2 (good_ok hB).2 (fun i hi => by
      have : i = 0 := by omega
      subst this; rfl) 1 (Nat.le_refl _)
    unfold dvTake
    rw [e2, hm]
    cases hY : mulM (lf [dvT o (lN L) (fN L) S k]) (fN L k) (lN L k) 1 with
    | none => rfl
    | some Y =>
      have fY := okL_falls (mul1_falls hgt hB hY)
      have fp := (okL_falls hok.p).2
      show (if (subL (scL c S.p) (scL c Y)).length ≤ 400 then some _ else none) = Option.map (scD c) (if (subL S.p Y).length ≤ 400 then some _ else none)
      rw [subL_sc c1 c2 fp fY.2, scL_len]
      split
      · show some _ = some _
        congr 1
        unfold scD
        simp only [Dv.mk.injEq, and_true]
        refine ⟨subL_sc c1 c2 fp fY.2, ?_⟩
        funext i
        unfold updQ
        split
        · rename_i e
          subst e
          show addL (scL c (S.q i)) [scT1 c _] = _
          rw [← scL_one, addL_sc c1 c2 (hok.q i).1 (fallsOne hgt)]
        · rfl
      · rfl
  · show some (dvLeave o (scD c S)) = some (scD c (dvLeave o S))
    congr 1
    unfold dvLeave
    rw [e1]
    show Dv.mk (subL (scL c S.p) [scT1 c (ldL o S.p)]) (fun i => scL c (S.q i)) (addL (scL c S.r) [scT1 c (ldL o S.p)]) = Dv.mk (scL c (subL S.p [ldL o S.p])) (fun i => scL c (S.q i)) (scL c (addL S.r [ldL o S.p]))
    rw [← scL_one, subL_sc c1 c2 (okL_falls hok.p).2 (fallsOne hg), addL_sc c1 c2 hok.r.1 (fallsOne hg)]
theorem dvRun_sc {o : Int} {n : Nat} {L : Nat → List T} (hl : lstOk n (lN L) (fN L) = true) {c : Int} (c1 : 1 ≤ c) (c2 : c ≤ 100) : ∀ (v u : Nat) (S : Dv), DvOk u S → dvRun o n (lN L) (fN L) v (scD c S) = (dvRun o n (lN L) (fN L) v S).map (scD c)
  | 0, u, S, hok => by
    unfold dvRun
    rw [show (scD c S).p.length = S.p.length from scL_len c S.p]
    split <;> rfl
  | v + 1, u, S, hok => by
    by_cases h0 : S.p.length = 0
    · rw [dvRun_done h0, dvRun_done (show (scD c S).p.length = 0 by rw [show (scD c S).p.length = S.p.length from scL_len c S.p]; exact h0)]; rfl
    · have h1 : (scD c S).p.length ≠ 0 := by rw [show (scD c S).p.length = S.p.length from scL_len c S.p]; exact h0
      have hsc := dvStep_sc (o := o) hl c1 c2 hok h0
      cases hs : dvStep o n (lN L) (fN L) S with
      | none =>
        rw [hs] at hsc
        rw [dvRun_no h0 hs, dvRun_no h1 hsc]; rfl
      | some S1 =>
        rw [hs] at hsc
        rw [dvRun_step h0 hs, dvRun_step h1 hsc]
        exact dvRun_sc hl c1 c2 v (u + 1) S1 (dvStep_ok hl hok h0 hs)
theorem redAll_sc {o : Int} {p : List T} {n : Nat} {L : Nat → List T} {c : Int} (c1 : 1 ≤ c) (c2 : c ≤ 100) (hp : okL p = true) : redAll o (scL c p) n (lN L) (fN L) = (redAll o p n (lN L) (fN L)).map (scD c) := by
  have hp2 : okL (scL c p) = true := okL_of (by rw [scL_len]; exact (okL_falls hp).1) (scL_falls c1 c2 (okL_falls hp).2)
  unfold redAll
  rw [hp, hp2]
  split
  · rename_i h
    exact dvRun_sc h.2.2 c1 c2 300 0 (dvOf p) (DvOk.start hp)
  · rfl
end Go.Proofs.Ytfjmpempemingaa
