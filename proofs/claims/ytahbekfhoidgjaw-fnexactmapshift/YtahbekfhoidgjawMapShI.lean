/-
  Times that are shifted: the program.
-/
import Derived.Test.YtahbekfhoidgjawMapNum
namespace Go.Proofs.Ytahbekfhoidgjaw
open Go.RowKit Go.Maps
set_option linter.unusedVariables false

theorem fChoose_rangeT (n k : Int) : 0 ≤ fChoose n k ∧ fChoose n k ≤ 100 := by unfold fChoose; split <;> omega
/-- how often a time stands k times in itself and c, n times. -/
def shN (n k c : Int) : Int := fChoose n k * pw c (n - k).toNat % 101
theorem shN_range (n k c : Int) : 0 ≤ shN n k c ∧ shN n k c ≤ 100 := by unfold shN; omega
theorem shiftedI (n k c : Int) (w : World) (n0 : 0 ≤ n) (n1 : n ≤ 15) (k0 : 0 ≤ k) (k1 : k ≤ n) (c0 : 0 ≤ c) (c1 : c ≤ 100) :
    Calls Try.prog 26 #[.int .i64 n, .int .i64 k, .int .i64 c] w fun e w' => e = .returned (.int .i64 (shN n k c)) ∧ w' = w := by
  have hch := fChoose_rangeT n k
  have hpb := pw_bd c (n - k).toNat
  have hp : ∀ u : World, Calls Try.prog 50 #[.int .i64 c, .int .i64 (n - k)] u fun e w' => e = .returned (.int .i64 (pw c (n - k).toNat)) ∧ w' = u := fun u => power c (n - k) u c0 c1 (by omega) (by omega)
  have ht : ∀ u : World, Calls Try.prog 25 #[.int .i64 (fChoose n k), .int .i64 (pw c (n - k).toNat)] u fun e w' => e = .returned (.int .i64 (shN n k c)) ∧ w' = u := fun u => times _ _ u hch.1 hch.2 hpb.1 hpb.2
  have hwr : IntKind.i64.wrap (n - k) = n - k := by rw [IntKind.wrap_i64]; omega
  clear hch hpb
  go_enter Try.func26, Try.ntmps26
  go_wp2_with (first
    | (go_at_call 49; refine (chooseI _ _ _).mono ?_; rintro e w' ⟨rfl, hw'⟩; obtain rfl := hw'.symm; clear hw')
    | (go_at_call 50; refine (hp _).mono ?_; rintro e w' ⟨rfl, hw'⟩; obtain rfl := hw'.symm; clear hw')
    | (go_at_call 25; refine (ht _).mono ?_; rintro e w' ⟨rfl, hw'⟩; obtain rfl := hw'.symm; clear hw'))
  go_ret
  exact ⟨rfl, rfl⟩
def shV (a b : Int) (t : T) (x y : Nat) : Int := t.c * shN t.m.x x a % 101 * shN t.m.y y b % 101
theorem shV_range (a b : Int) (t : T) (x y : Nat) : 0 ≤ shV a b t x y ∧ shV a b t x y ≤ 100 := by unfold shV; omega
def shM (t : T) (x y : Nat) : M := ⟨x, y, t.m.d, t.m.e⟩
def shRow (a b : Int) (t : T) (x : Nat) (K : List T) : Nat → List T
  | 0 => K
  | y + 1 => putT (shV a b t x y) (shM t x y) (shRow a b t x K y)
def shAll (a b : Int) (t : T) (K : List T) : Nat → List T
  | 0 => K
  | x + 1 => shRow a b t x (shAll a b t K x) (t.m.y.toNat + 1)
theorem shM_ok {t : T} (h : t.m.ok = true) {x y : Nat} (hx : (x : Int) ≤ t.m.x) (hy : (y : Int) ≤ t.m.y) : (shM t x y).ok = true := by
  have := M.ok_iff.1 h
  exact M.ok_iff.2 (by dsimp only [shM]; omega)
theorem shRow_falls {a b : Int} {t : T} (h : t.m.ok = true) {x : Nat} (hx : (x : Int) ≤ t.m.x) {K : List T} (hK : Falls K) : ∀ y : Nat, (y : Int) ≤ t.m.y + 1 → Falls (shRow a b t x K y)
  | 0, _ => hK
  | y + 1, hy => (putT_facts (shRow_falls h hx hK y (by omega)) (shM_ok h hx (by omega)) (shV_range ..).1 (shV_range ..).2).1
theorem shAll_falls {a b : Int} {t : T} (h : t.m.ok = true) {K : List T} (hK : Falls K) : ∀ x : Nat, (x : Int) ≤ t.m.x + 1 → Falls (shAll a b t K x)
  | 0, _ => hK
  | x + 1, hx => shRow_falls h (by omega) (shAll_falls h hK x (by omega)) _ (by have := M.ok_iff.1 h; omega)
theorem shRow_len (a b : Int) (t : T) (x : Nat) (K : List T) : ∀ y, (shRow a b t x K y).length ≤ K.length + y
  | 0 => Nat.le_refl _
  | y + 1 => by have h1 := shRow_len a b t x K y; have h2 := putT_len (shV a b t x y) (shM t x y) (shRow a b t x K y); show (putT _ _ _).length ≤ _; omega
theorem shAll_len (a b : Int) (t : T) (K : List T) : ∀ x, (shAll a b t K x).length ≤ K.length + x * (t.m.y.toNat + 1)
  | 0 => by simp [shAll]
  | x + 1 => by have h1 := shAll_len a b t K x; have h2 := shRow_len a b t x (shAll a b t K x) (t.m.y.toNat + 1); rw [shAll, Nat.succ_mul]; omega
def stShift (a b : Int) (K : List T) (t : T) : Option (List T) := some (shAll a b t K (t.m.x.toNat + 1))
/-- the box of the term, and those of both numbers. -/
abbrev Z7 (bx A B : Nat) (t : T) (a b : Int) (u : World) : Prop := u.cell? ⟨A, 0, none⟩ = some (.int .i64 a) ∧ u.cell? ⟨B, 0, none⟩ = some (.int .i64 b) ∧ u.cell? ⟨bx, 0, none⟩ = some (.int .i64 t.c) ∧ u.cell? ⟨bx, 1, none⟩ = some (.int .i64 t.m.x) ∧ u.cell? ⟨bx, 2, none⟩ = some (.int .i64 t.m.y) ∧ u.cell? ⟨bx, 3, none⟩ = some (.int .i64 t.m.d) ∧ u.cell? ⟨bx, 4, none⟩ = some (.int .i64 t.m.e)
theorem Z7.grown {bx A B bm : Nat} {t : T} {a b : Int} {u u' : World} (h : Z7 bx A B t a b u) (hg : u.grownBy u' (some bm)) (h1 : bx ≠ bm) (h2 : A ≠ bm) (h3 : B ≠ bm) : Z7 bx A B t a b u' := by
  have hc : ∀ k o v, k ≠ bm → u.cell? ⟨k, o, none⟩ = some v → u'.cell? ⟨k, o, none⟩ = some v := fun k o v hk hv => (World.cell?_of_block (w := u) (a := ⟨k, o, none⟩) (hg.block k (World.block_lt_of_cell? u ⟨k, o, none⟩ hv) (fun e => hk (by cases e; rfl)))).trans hv
  obtain ⟨q5, q6, q0, q1, q2, q3, q4⟩ := h
  exact ⟨hc _ _ _ h2 q5, hc _ _ _ h3 q6, hc _ _ _ h1 q0, hc _ _ _ h1 q1, hc _ _ _ h1 q2, hc _ _ _ h1 q3, hc _ _ _ h1 q4⟩
theorem sum_no_cell {w : World} {b n k o : Nat} {c : M → Int} {v : Value} (h : SumR w b n c) (hc : w.cell? ⟨k, o, none⟩ = some v) : k ≠ b := by
  rintro rfl
  obtain ⟨D, ⟨es, clock, hb, _⟩, _⟩ := h
  simp [World.cell?, hb] at hc
set_option maxRecDepth 100000 in
set_option maxHeartbeats 8000000 in
theorem shiftTurns (A B : Nat) (a b : Int) (a0 : 0 ≤ a) (a1 : a ≤ 100) (b0 : 0 ≤ b) (b1 : b ≤ 100) :
    Turns 24 #[.pointer (some ⟨A, 0, none⟩), .pointer (some ⟨B, 0, none⟩)] (stShift a b) (fun W => W.cell? ⟨A, 0, none⟩ = some (.int .i64 a) ∧ W.cell? ⟨B, 0, none⟩ = some (.int .i64 b)) := by
  intro W bm c K t hS hK hKc hl ht hq
  have hAm := sum_no_cell hS hq.1
  have hBm := sum_no_cell hS hq.2
  have hbl := hS.lt
  have hXm : W.heap.size ≠ bm := by omega
  have hdb := M.ok_iff.1 ht.1
  have hZ : Z7 W.heap.size A B t a b (W.alloc (.cells #[.int .i64 t.c, .int .i64 t.m.x, .int .i64 t.m.y, .int .i64 t.m.d, .int .i64 t.m.e] 40)) := ⟨(World.cell?_of_block (w := W) (a := ⟨A, 0, none⟩) (Below.heap_alloc _ _ _ (World.block_lt_of_cell? W ⟨A, 0, none⟩ hq.1))).trans hq.1, (World.cell?_of_block (w := W) (a := ⟨B, 0, none⟩) (Below.heap_alloc _ _ _ (World.block_lt_of_cell? W ⟨B, 0, none⟩ hq.2))).trans hq.2, B5.box W t⟩
  have hS0 := hS.grown (World.grownBy_alloc W (.cells #[.int .i64 t.c, .int .i64 t.m.x, .int .i64 t.m.y, .int .i64 t.m.d, .int .i64 t.m.e] 40) none) (by simp)
  have hG0 := World.grownBy_alloc W (.cells #[.int .i64 t.c, .int .i64 t.m.x, .int .i64 t.m.y, .int .i64 t.m.d, .int .i64 t.m.e] 40) (some bm)
  have HK := Hid.mk' hK
  have HKC := Hid.mk' hKc
  clear hS hK hKc hq
  show Calls Try.prog 24 #[.map (some bm), .agg #[.int .i64 t.c, .int .i64 t.m.x, .int .i64 t.m.y, .int .i64 t.m.d, .int .i64 t.m.e], .pointer (some ⟨A, 0, none⟩), .pointer (some ⟨B, 0, none⟩)] W _
  go_enter Try.func24, Try.ntmps24
  have hw1 : IntKind.i64.wrap (t.m.x + 1) = t.m.x + 1 := by rw [IntKind.wrap_i64]; omega
  have hw2 : IntKind.i64.wrap (t.m.y + 1) = t.m.y + 1 := by rw [IntKind.wrap_i64]; omega
  have HZ := Hid.mk' hZ
  have HS0 := Hid.mk' hS0
  have HG0 := Hid.mk' hG0
  have htc : 0 ≤ t.c ∧ t.c ≤ 100 := by omega
  clear hZ hS0 hG0
  go_wp2_with fail
  go_loopw [14] (fun v wr => ∃ (x : Nat) (c' : M → Int), x ≤ t.m.x.toNat + 1 ∧ v = .int .i64 (x : Int) ∧ SumR wr bm 65536 c' ∧ (∀ m, m.ok = true → coef (shAll a b t K x) m = c' m) ∧ W.grownBy wr (some bm) ∧ Z7 W.heap.size A B t a b wr) (fun v _ => t.m.x.toNat + 1 - (intOf v).toNat)
  case atStart => exact ⟨0, c, Nat.zero_le _, rfl, HS0.out, HKC.out, HG0.out, HZ.out⟩
  case round =>
    obtain ⟨x, c', hx, rfl, hS, hc', hG, hZ⟩ := hrel
    by_cases hlt : x < t.m.x.toNat + 1
    · have hxl : (x : Int) < t.m.x + 1 := by omega
      have hxi : (x : Int) ≤ t.m.x := by omega
      have hK1 := Hid.mk' (shAll_falls (a := a) (b := b) ht.1 HK.out x (by omega))
      have HS := Hid.mk' hS
      have HG := Hid.mk' hG
      have HC := Hid.mk' hc'
      have hsx := shN_range t.m.x x a
      have hcx : ∀ u : World, Calls Try.prog 26 #[.int .i64 t.m.x, .int .i64 (x : Int), .int .i64 a] u fun e w' => e = .returned (.int .i64 (shN t.m.x x a)) ∧ w' = u := fun u => shiftedI _ _ _ u (by omega) (by omega) (by omega) hxi a0 a1
      have htx : ∀ u : World, Calls Try.prog 25 #[.int .i64 t.c, .int .i64 (shN t.m.x x a)] u fun e w' => e = .returned (.int .i64 (t.c * shN t.m.x x a % 101)) ∧ w' = u := fun u => times _ _ u htc.1 htc.2 hsx.1 hsx.2
      clear hS hG hc'
      go_wp2_with fail
      have hZd : Z7 W.heap.size A B t a b wr.drew := hZ
      go_region_held3 (fun u => u.cell? ⟨A, 0, none⟩ = some (.int .i64 a) ∧ u.cell? ⟨B, 0, none⟩ = some (.int .i64 b) ∧ u.cell? ⟨W.heap.size, 0, none⟩ = some (.int .i64 t.c) ∧ u.cell? ⟨W.heap.size, 1, none⟩ = some (.int .i64 t.m.x) ∧ u.cell? ⟨W.heap.size, 2, none⟩ = some (.int .i64 t.m.y) ∧ u.cell? ⟨W.heap.size, 3, none⟩ = some (.int .i64 t.m.d) ∧ u.cell? ⟨W.heap.size, 4, none⟩ = some (.int .i64 t.m.e)) (first | with_reducible exact hZd | with_reducible assumption) (first | (go_at_call 26; refine (hcx _).mono ?_; rintro e w' ⟨rfl, hw'⟩; obtain rfl := hw'.symm; clear hw') | (go_at_call 25; refine (htx _).mono ?_; rintro e w' ⟨rfl, hw'⟩; obtain rfl := hw'.symm; clear hw'))
      have HSd := Hid.mk' (HS.out.grown (grown_of_below (Below.refl _ wr).drew) (by simp))
      have HGd := Hid.mk' (HG.out.trans (⟨rfl, rfl, rfl, Nat.le_refl _, fun _ _ _ => rfl⟩ : wr.grownBy wr.drew (some bm)))
      have HZd := Hid.mk' hZd
      clear hcx htx hZ hZd
      rename_i hheld
      clear hheld
      generalize wr.drew = wd at *
      have HCZ := HZd.out.2.2.2.2.1
      go_wp2_with fail
      clear HCZ
      go_loopw [30] (fun v w2 => ∃ (y : Nat) (c2 : M → Int), y ≤ t.m.y.toNat + 1 ∧ v = .int .i64 (y : Int) ∧ SumR w2 bm 65536 c2 ∧ (∀ m, m.ok = true → coef (shRow a b t x (shAll a b t K x) y) m = c2 m) ∧ W.grownBy w2 (some bm) ∧ Z7 W.heap.size A B t a b w2) (fun v _ => t.m.y.toNat + 1 - (intOf v).toNat)
      case atStart => exact ⟨0, c', Nat.zero_le _, rfl, HSd.out, HC.out, HGd.out, HZd.out⟩
      case round =>
        obtain ⟨y, c2, hy, rfl, hS, hc2, hG, hZ⟩ := hrel
        by_cases hlt2 : y < t.m.y.toNat + 1
        · have hyl : (y : Int) < t.m.y + 1 := by omega
          have hyi : (y : Int) ≤ t.m.y := by omega
          have hsy := shN_range t.m.y y b
          have hsv := shV_range a b t x y
          have hcy : ∀ u : World, Calls Try.prog 26 #[.int .i64 t.m.y, .int .i64 (y : Int), .int .i64 b] u fun e w' => e = .returned (.int .i64 (shN t.m.y y b)) ∧ w' = u := fun u => shiftedI _ _ _ u (by omega) (by omega) (by omega) hyi b0 b1
          have hty : ∀ u : World, Calls Try.prog 25 #[.int .i64 (t.c * shN t.m.x x a % 101), .int .i64 (shN t.m.y y b)] u fun e w' => e = .returned (.int .i64 (shV a b t x y)) ∧ w' = u := fun u => times _ _ u (by omega) (by omega) hsy.1 hsy.2
          have hm := shM_ok ht.1 hxi hyi
          have hput := Hid.mk' (putT_facts (shRow_falls (a := a) (b := b) ht.1 hxi hK1.out y (by omega)) hm hsv.1 hsv.2)
          have HADD := Hid.mk' (sumAddR bm 65536 c2 (shV a b t x y) (shM t x y) wr.drew hm (hS.grown (grown_of_below (Below.refl _ wr).drew) (by simp)) (by unfold maxLen; omega) hsv.1 hsv.2)
          have HG := Hid.mk' (hG.trans (⟨rfl, rfl, rfl, Nat.le_refl _, fun _ _ _ => rfl⟩ : wr.grownBy wr.drew (some bm)))
          have HC2 := Hid.mk' hc2
          clear hS hG hc2
          go_wp2_with fail
          have hZd : Z7 W.heap.size A B t a b wr.drew := hZ
          go_region_held3 (fun u => u.cell? ⟨A, 0, none⟩ = some (.int .i64 a) ∧ u.cell? ⟨B, 0, none⟩ = some (.int .i64 b) ∧ u.cell? ⟨W.heap.size, 0, none⟩ = some (.int .i64 t.c) ∧ u.cell? ⟨W.heap.size, 1, none⟩ = some (.int .i64 t.m.x) ∧ u.cell? ⟨W.heap.size, 2, none⟩ = some (.int .i64 t.m.y) ∧ u.cell? ⟨W.heap.size, 3, none⟩ = some (.int .i64 t.m.d) ∧ u.cell? ⟨W.heap.size, 4, none⟩ = some (.int .i64 t.m.e)) (first | with_reducible exact hZd | with_reducible exact Z7.grown hZd hg3 hXm hAm hBm) (first | (go_at_call 26; refine (hcy _).mono ?_; rintro e w' ⟨rfl, hw'⟩; obtain rfl := hw'.symm; clear hw') | (go_at_call 25; refine (hty _).mono ?_; rintro e w' ⟨rfl, hw'⟩; obtain rfl := hw'.symm; clear hw') | (go_at_call 27; refine HADD.out.mono ?_; rintro e w3 ⟨rfl, hs3, hg3⟩))
          have hZ3 := Hid.mk' (Z7.grown hZd hg3 hXm hAm hBm)
          have HS3 := Hid.mk' hs3.cap
          have HG3 := Hid.mk' (HG.out.trans hg3)
          clear hs3 hg3
          go_wp2
          go_roundw
          case rel =>
            refine ⟨y + 1, _, by omega, by go_num, HS3.out, fun m hmo => ?_, HG3.out, hZ3.out⟩
            show coef (putT (shV a b t x y) (shM t x y) (shRow a b t x (shAll a b t K x) y)) m = _
            rw [hput.out.2]
            unfold updC
            split
            · rw [HC2.out _ hm]
            · exact HC2.out m hmo
          case measure => simp [intOf]; omega
        · obtain rfl : y = t.m.y.toNat + 1 := by omega
          have hyl : ¬ ((t.m.y.toNat + 1 : Nat) : Int) < t.m.y + 1 := by omega
          have HS2 := Hid.mk' hS
          have HC2 := Hid.mk' hc2
          have HG2 := Hid.mk' hG
          have HZ2 := Hid.mk' hZ
          clear hS hc2 hG hZ
          go_wp2
          go_roundw
          case rel => exact ⟨x + 1, c2, by omega, by go_num, HS2.out, HC2.out, HG2.out, HZ2.out⟩
          case measure => simp [intOf]; omega
    · obtain rfl : x = t.m.x.toNat + 1 := by omega
      have hxl : ¬ ((t.m.x.toNat + 1 : Nat) : Int) < t.m.x + 1 := by omega
      have HS2 := Hid.mk' hS
      have HC2 := Hid.mk' hc'
      have HG2 := Hid.mk' hG
      clear hS hc' hG hZ
      go_wp2
      go_ret
      have hfa : Falls (shAll a b t K (t.m.x.toNat + 1)) := shAll_falls ht.1 HK.out _ (by omega)
      first | exact ⟨HG2.out, .inl ⟨shAll a b t K (t.m.x.toNat + 1), rfl, rfl, c', HS2.out, hfa, HC2.out⟩⟩ | exact ⟨HG2.out, .inl ⟨shAll a b t K (t.m.x.toNat + 1), c', rfl, rfl, HS2.out, hfa, HC2.out⟩⟩
end Go.Proofs.Ytahbekfhoidgjaw
