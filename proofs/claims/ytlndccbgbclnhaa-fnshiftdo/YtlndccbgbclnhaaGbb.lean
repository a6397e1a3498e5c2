/-
  Times that are shifted: the program.
  Times that are shifted: the model, and what the program answers.
  Times are moved by numbers: as other times put in.
-/
import Derived.Test.YtlndccbgbclnhaaGba
namespace Go.Proofs.Ytlndccbgbclnhaa
open Go.RowKit Go.Maps
set_option linter.unusedVariables false

theorem fChoose_rangeT (n k : Int) : 0 ≤ fChoose n k ∧ fChoose n k ≤ 100 := by unfold fChoose; split <;> omega
/-- how often a time stands k times in itself and c, n times. -/
def shN (n k c : Int) : Int := fChoose n k * pw c (n - k).toNat % 101
theorem shN_range (n k c : Int) : 0 ≤ shN n k c ∧ shN n k c ≤ 100 := by unfold shN; omega
theorem shiftedI (n k c : Int) (w : World) (n0 : 0 ≤ n) (n1 : n ≤ 15) (k0 : 0 ≤ k) (k1 : k ≤ n) (c0 : 0 ≤ c) (c1 : c ≤ 100) :
    Calls Try.prog 34 #[.int .i64 n, .int .i64 k, .int .i64 c] w fun e w' => e = .returned (.int .i64 (shN n k c)) ∧ w' = w := by
  have hch := fChoose_rangeT n k
  have hpb := pw_bd c (n - k).toNat
  have hp : ∀ u : World, Calls Try.prog 54 #[.int .i64 c, .int .i64 (n - k)] u fun e w' => e = .returned (.int .i64 (pw c (n - k).toNat)) ∧ w' = u := fun u => power c (n - k) u c0 c1 (by omega) (by omega)
  have ht : ∀ u : World, Calls Try.prog 33 #[.int .i64 (fChoose n k), .int .i64 (pw c (n - k).toNat)] u fun e w' => e = .returned (.int .i64 (shN n k c)) ∧ w' = u := fun u => times _ _ u hch.1 hch.2 hpb.1 hpb.2
  have hwr : IntKind.i64.wrap (n - k) = n - k := by rw [IntKind.wrap_i64]; omega
  clear hch hpb
  go_enter Try.func34, Try.ntmps34
  go_wp2_with (first
    | (go_at_call 68; refine (chooseI _ _ _).mono ?_; rintro e w' ⟨rfl, hw'⟩; obtain rfl := hw'.symm; clear hw')
    | (go_at_call 54; refine (hp _).mono ?_; rintro e w' ⟨rfl, hw'⟩; obtain rfl := hw'.symm; clear hw')
    | (go_at_call 33; refine (ht _).mono ?_; rintro e w' ⟨rfl, hw'⟩; obtain rfl := hw'.symm; clear hw'))
  go_ret
  exact ⟨rfl, rfl⟩
def shV (a b : Int) (t : T) (x y : Nat) : Int := t.c * shN t.m.x x a % 101 * shN t.m.y y b % 101
theorem shV_range (a b : Int) (t : T) (x y : Nat) : 0 ≤ shV a b t x y ∧ shV a b t x y ≤ 100 := by unfold shV; omega
def shM (t : T) (x y : Nat) : M := ⟨x, y, t.m.d, t.m.e⟩
def shRow (a b : Int) (t : T) (x : Nat) (K : List T) : Nat → List T
  | 0 => K
  | y + 1 => putT (shV a b t x y) (shM t x y) (shRow a b t x K y)
def shAll (a b : Int) (t : T) (K : List T) : Nat → List T
  | 0 => K
  | x + 1 => shRow a b t x (shAll a b t K x) (t.m.y.toNat + 1)
theorem shM_ok {t : T} (h : t.m.ok = true) {x y : Nat} (hx : (x : Int) ≤ t.m.x) (hy : (y : Int) ≤ t.m.y) : (shM t x y).ok = true := by
  have := M.ok_iff.1 h
  exact M.ok_iff.2 (by dsimp only [shM]; omega)
theorem shRow_falls {a b : Int} {t : T} (h : t.m.ok = true) {x : Nat} (hx : (x : Int) ≤ t.m.x) {K : List T} (hK : Falls K) : ∀ y : Nat, (y : Int) ≤ t.m.y + 1 → Falls (shRow a b t x K y)
  | 0, _ => hK
  | y + 1, hy => (putT_facts (shRow_falls h hx hK y (by omega)) (shM_ok h hx (by omega)) (shV_range ..).1 (shV_range ..).2).1
theorem shAll_falls {a b : Int} {t : T} (h : t.m.ok = true) {K : List T} (hK : Falls K) : ∀ x : Nat, (x : Int) ≤ t.m.x + 1 → Falls (shAll a b t K x)
  | 0, _ => hK
  | x + 1, hx => shRow_falls h (by omega) (shAll_falls h hK x (by omega)) _ (by have := M.ok_iff.1 h; omega)
theorem shRow_len (a b : Int) (t : T) (x : Nat) (K : List T) : ∀ y, (shRow a b t x K y).length ≤ K.length + y
  | 0 => Nat.le_refl _
  | y + 1 => by have h1 := shRow_len a b t x K y; have h2 := putT_len (shV a b t x y) (shM t x y) (shRow a b t x K y); show (putT _ _ _).length ≤ _; omega
theorem shAll_len (a b : Int) (t : T) (K : List T) : ∀ x, (shAll a b t K x).length ≤ K.length + x * (t.m.y.toNat + 1)
  | 0 => by simp [shAll]
  | x + 1 => by have h1 := shAll_len a b t K x; have h2 := shRow_len a b t x (shAll a b t K x) (t.m.y.toNat + 1); rw [shAll, Nat.succ_mul]; omega
def stShift (a b : Int) (K : List T) (t : T) : Option (List T) := some (shAll a b t K (t.m.x.toNat + 1))
/-- the box of the term, and those of both numbers. -/
abbrev Z7 (bx A B : Nat) (t : T) (a b : Int) (u : World) : Prop := u.cell? ⟨A, 0, none⟩ = some (.int .i64 a) ∧ u.cell? ⟨B, 0, none⟩ = some (.int .i64 b) ∧ u.cell? ⟨bx, 0, none⟩ = some (.int .i64 t.c) ∧ u.cell? ⟨bx, 1, none⟩ = some (.int .i64 t.m.x) ∧ u.cell? ⟨bx, 2, none⟩ = some (.int .i64 t.m.y) ∧ u.cell? ⟨bx, 3, none⟩ = some (.int .i64 t.m.d) ∧ u.cell? ⟨bx, 4, none⟩ = some (.int .i64 t.m.e)
theorem Z7.grown {bx A B bm : Nat} {t : T} {a b : Int} {u u' : World} (h : Z7 bx A B t a b u) (hg : u.grownBy u' (some bm)) (h1 : bx ≠ bm) (h2 : A ≠ bm) (h3 : B ≠ bm) : Z7 bx A B t a b u' := by
  have hc : ∀ k o v, k ≠ bm → u.cell? ⟨k, o, none⟩ = some v → u'.cell? ⟨k, o, none⟩ = some v := fun k o v hk hv => (World.cell?_of_block (w := u) (a := ⟨k, o, none⟩) (hg.block k (World.block_lt_of_cell? u ⟨k, o, none⟩ hv) (fun e => hk (by cases e; rfl)))).trans hv
  obtain ⟨q5, q6, q0, q1, q2, q3, q4⟩ := h
  exact ⟨hc _ _ _ h2 q5, hc _ _ _ h3 q6, hc _ _ _ h1 q0, hc _ _ _ h1 q1, hc _ _ _ h1 q2, hc _ _ _ h1 q3, hc _ _ _ h1 q4⟩
theorem sum_no_cell {w : World} {b n k o : Nat} {c : M → Int} {v : Value} (h : SumR w b n c) (hc : w.cell? ⟨k, o, none⟩ = some v) : k ≠ b := by
  rintro rfl
  obtain ⟨D, ⟨es, clock, hb, _⟩, _⟩ := h
  simp [World.cell?, hb] at hc
set_option maxRecDepth 100000 in
set_option maxHeartbeats 8000000 in
theorem shiftTurns (A B : Nat) (a b : Int) (a0 : 0 ≤ a) (a1 : a ≤ 100) (b0 : 0 ≤ b) (b1 : b ≤ 100) :
    Turns 32 #[.pointer (some ⟨A, 0, none⟩), .pointer (some ⟨B, 0, none⟩)] (stShift a b) (fun W => W.cell? ⟨A, 0, none⟩ = some (.int .i64 a) ∧ W.cell? ⟨B, 0, none⟩ = some (.int .i64 b)) := by
  intro W bm c K t hS hK hKc hl ht hq
  have hAm := sum_no_cell hS hq.1
  have hBm := sum_no_cell hS hq.2
  have hbl := hS.lt
  have hXm : W.heap.size ≠ bm := by omega
  have hdb := M.ok_iff.1 ht.1
  have hZ : Z7 W.heap.size A B t a b (W.alloc (.cells #[.int .i64 t.c, .int .i64 t.m.x, .int .i64 t.m.y, .int .i64 t.m.d, .int .i64 t.m.e] 52)) := ⟨(World.cell?_of_block (w := W) (a := ⟨A, 0, none⟩) (Below.heap_alloc _ _ _ (World.block_lt_of_cell? W ⟨A, 0, none⟩ hq.1))).trans hq.1, (World.cell?_of_block (w := W) (a := ⟨B, 0, none⟩) (Below.heap_alloc _ _ _ (World.block_lt_of_cell? W ⟨B, 0, none⟩ hq.2))).trans hq.2, B5.box W t⟩
  have hS0 := hS.grown (World.grownBy_alloc W (.cells #[.int .i64 t.c, .int .i64 t.m.x, .int .i64 t.m.y, .int .i64 t.m.d, .int .i64 t.m.e] 52) none) (by simp)
  have hG0 := World.grownBy_alloc W (.cells #[.int .i64 t.c, .int .i64 t.m.x, .int .i64 t.m.y, .int .i64 t.m.d, .int .i64 t.m.e] 52) (some bm)
  have HK := Hid.mk' hK
  have HKC := Hid.mk' hKc
  clear hS hK hKc hq
  show Calls Try.prog 32 #[.map (some bm), .agg #[.int .i64 t.c, .int .i64 t.m.x, .int .i64 t.m.y, .int .i64 t.m.d, .int .i64 t.m.e], .pointer (some ⟨A, 0, none⟩), .pointer (some ⟨B, 0, none⟩)] W _
  go_enter Try.func32, Try.ntmps32
  have hw1 : IntKind.i64.wrap (t.m.x + 1) = t.m.x + 1 := by rw [IntKind.wrap_i64]; omega
  have hw2 : IntKind.i64.wrap (t.m.y + 1) = t.m.y + 1 := by rw [IntKind.wrap_i64]; omega
  have HZ := Hid.mk' hZ
  have HS0 := Hid.mk' hS0
  have HG0 := Hid.mk' hG0
  have htc : 0 ≤ t.c ∧ t.c ≤ 100 := by omega
  clear hZ hS0 hG0
  go_wp2_with fail
  go_loopw [14] (fun v wr => ∃ (x : Nat) (c' : M → Int), x ≤ t.m.x.toNat + 1 ∧ v = .int .i64 (x : Int) ∧ SumR wr bm 65536 c' ∧ (∀ m, m.ok = true → coef (shAll a b t K x) m = c' m) ∧ W.grownBy wr (some bm) ∧ Z7 W.heap.size A B t a b wr) (fun v _ => t.m.x.toNat + 1 - (intOf v).toNat)
  case atStart => exact ⟨0, c, Nat.zero_le _, rfl, HS0.out, HKC.out, HG0.out, HZ.out⟩
  case round =>
    obtain ⟨x, c', hx, rfl, hS, hc', hG, hZ⟩ := hrel
    by_cases hlt : x < t.m.x.toNat + 1
    · have hxl : (x : Int) < t.m.x + 1 := by omega
      have hxi : (x : Int) ≤ t.m.x := by omega
      have hK1 := Hid.mk' (shAll_falls (a := a) (b := b) ht.1 HK.out x (by omega))
      have HS := Hid.mk' hS
      have HG := Hid.mk' hG
      have HC := Hid.mk' hc'
      have hsx := shN_range t.m.x x a
      have hcx : ∀ u : World, Calls Try.prog 34 #[.int .i64 t.m.x, .int .i64 (x : Int), .int .i64 a] u fun e w' => e = .returned (.int .i64 (shN t.m.x x a)) ∧ w' = u := fun u => shiftedI _ _ _ u (by omega) (by omega) (by omega) hxi a0 a1
      have htx : ∀ u : World, Calls Try.prog 33 #[.int .i64 t.c, .int .i64 (shN t.m.x x a)] u fun e w' => e = .returned (.int .i64 (t.c * shN t.m.x x a % 101)) ∧ w' = u := fun u => times _ _ u htc.1 htc.2 hsx.1 hsx.2
      clear hS hG hc'
      go_wp2_with fail
      have hZd : Z7 W.heap.size A B t a b wr.drew := hZ
      go_region_held3 (fun u => u.cell? ⟨A, 0, none⟩ = some (.int .i64 a) ∧ u.cell? ⟨B, 0, none⟩ = some (.int .i64 b) ∧ u.cell? ⟨W.heap.size, 0, none⟩ = some (.int .i64 t.c) ∧ u.cell? ⟨W.heap.size, 1, none⟩ = some (.int .i64 t.m.x) ∧ u.cell? ⟨W.heap.size, 2, none⟩ = some (.int .i64 t.m.y) ∧ u.cell? ⟨W.heap.size, 3, none⟩ = some (.int .i64 t.m.d) ∧ u.cell? ⟨W.heap.size, 4, none⟩ = some (.int .i64 t.m.e)) (first | with_reducible exact hZd | with_reducible assumption) (first | (go_at_call 34; refine (hcx _).mono ?_; rintro e w' ⟨rfl, hw'⟩; obtain rfl := hw'.symm; clear hw') | (go_at_call 33; refine (htx _).mono ?_; rintro e w' ⟨rfl, hw'⟩; obtain rfl := hw'.symm; clear hw'))
      have HSd := Hid.mk' (HS.out.grown (grown_of_below (Below.refl _ wr).drew) (by simp))
      have HGd := Hid.mk' (HG.out.trans (⟨rfl, rfl, rfl, Nat.le_refl _, fun _ _ _ => rfl⟩ : wr.grownBy wr.drew (some bm)))
      have HZd := Hid.mk' hZd
      clear hcx htx hZ hZd
      rename_i hheld
      clear hheld
      generalize wr.drew = wd at *
      have HCZ := HZd.out.2.2.2.2.1
      go_wp2_with fail
      clear HCZ
      go_loopw [30] (fun v w2 => ∃ (y : Nat) (c2 : M → Int), y ≤ t.m.y.toNat + 1 ∧ v = .int .i64 (y : Int) ∧ SumR w2 bm 65536 c2 ∧ (∀ m, m.ok = true → coef (shRow a b t x (shAll a b t K x) y) m = c2 m) ∧ W.grownBy w2 (some bm) ∧ Z7 W.heap.size A B t a b w2) (fun v _ => t.m.y.toNat + 1 - (intOf v).toNat)
      case atStart => exact ⟨0, c', Nat.zero_le _, rfl, HSd.out, HC.out, HGd.out, HZd.out⟩
      case round =>
        obtain ⟨y, c2, hy, rfl, hS, hc2, hG, hZ⟩ := hrel
        by_cases hlt2 : y < t.m.y.toNat + 1
        · have hyl : (y : Int) < t.m.y + 1 := by omega
          have hyi : (y : Int) ≤ t.m.y := by omega
          have hsy := shN_range t.m.y y b
          have hsv := shV_range a b t x y
          have hcy : ∀ u : World, Calls Try.prog 34 #[.int .i64 t.m.y, .int .i64 (y : Int), .int .i64 b] u fun e w' => e = .returned (.int .i64 (shN t.m.y y b)) ∧ w' = u := fun u => shiftedI _ _ _ u (by omega) (by omega) (by omega) hyi b0 b1
          have hty : ∀ u : World, Calls Try.prog 33 #[.int .i64 (t.c * shN t.m.x x a % 101), .int .i64 (shN t.m.y y b)] u fun e w' => e = .returned (.int .i64 (shV a b t x y)) ∧ w' = u := fun u => times _ _ u (by omega) (by omega) hsy.1 hsy.2
          have hm := shM_ok ht.1 hxi hyi
          have hput := Hid.mk' (putT_facts (shRow_falls (a := a) (b := b) ht.1 hxi hK1.out y (by omega)) hm hsv.1 hsv.2)
          have HADD := Hid.mk' (sumAddR bm 65536 c2 (shV a b t x y) (shM t x y) wr.drew hm (hS.grown (grown_of_below (Below.refl _ wr).drew) (by simp)) (by unfold maxLen; omega) hsv.1 hsv.2)
          have HG := Hid.mk' (hG.trans (⟨rfl, rfl, rfl, Nat.le_refl _, fun _ _ _ => rfl⟩ : wr.grownBy wr.drew (some bm)))
          have HC2 := Hid.mk' hc2
          clear hS hG hc2
          go_wp2_with fail
          have hZd : Z7 W.heap.size A B t a b wr.drew := hZ
          go_region_held3 (fun u => u.cell? ⟨A, 0, none⟩ = some (.int .i64 a) ∧ u.cell? ⟨B, 0, none⟩ = some (.int .i64 b) ∧ u.cell? ⟨W.heap.size, 0, none⟩ = some (.int .i64 t.c) ∧ u.cell? ⟨W.heap.size, 1, none⟩ = some (.int .i64 t.m.x) ∧ u.cell? ⟨W.heap.size, 2, none⟩ = some (.int .i64 t.m.y) ∧ u.cell? ⟨W.heap.size, 3, none⟩ = some (.int .i64 t.m.d) ∧ u.cell? ⟨W.heap.size, 4, none⟩ = some (.int .i64 t.m.e)) (first | with_reducible exact hZd | with_reducible exact Z7.grown hZd hg3 hXm hAm hBm) (first | (go_at_call 34; refine (hcy _).mono ?_; rintro e w' ⟨rfl, hw'⟩; obtain rfl := hw'.symm; clear hw') | (go_at_call 33; refine (hty _).mono ?_; rintro e w' ⟨rfl, hw'⟩; obtain rfl := hw'.symm; clear hw') | (go_at_call 35; refine HADD.out.mono ?_; rintro e w3 ⟨rfl, hs3, hg3⟩))
          have hZ3 := Hid.mk' (Z7.grown hZd hg3 hXm hAm hBm)
          have HS3 := Hid.mk' hs3.cap
          have HG3 := Hid.mk' (HG.out.trans hg3)
          clear hs3 hg3
          go_wp2
          go_roundw
          case rel =>
            refine ⟨y + 1, _, by omega, by go_num, HS3.out, fun m hmo => ?_, HG3.out, hZ3.out⟩
            show coef (putT (shV a b t x y) (shM t x y) (shRow a b t x (shAll a b t K x) y)) m = _
            rw [hput.out.2]
            unfold updC
            split
            · rw [HC2.out _ hm]
            · exact HC2.out m hmo
          case measure => simp [intOf]; omega
        · obtain rfl : y = t.m.y.toNat + 1 := by omega
          have hyl : ¬ ((t.m.y.toNat + 1 : Nat) : Int) < t.m.y + 1 := by omega
          have HS2 := Hid.mk' hS
          have HC2 := Hid.mk' hc2
          have HG2 := Hid.mk' hG
          have HZ2 := Hid.mk' hZ
          clear hS hc2 hG hZ
          go_wp2
          go_roundw
          case rel => exact ⟨x + 1, c2, by omega, by go_num, HS2.out, HC2.out, HG2.out, HZ2.out⟩
          case measure => simp [intOf]; omega
    · obtain rfl : x = t.m.x.toNat + 1 := by omega
      have hxl : ¬ ((t.m.x.toNat + 1 : Nat) : Int) < t.m.x + 1 := by omega
      have HS2 := Hid.mk' hS
      have HC2 := Hid.mk' hc'
      have HG2 := Hid.mk' hG
      clear hS hc' hG hZ
      go_wp2
      go_ret
      have hfa : Falls (shAll a b t K (t.m.x.toNat + 1)) := shAll_falls ht.1 HK.out _ (by omega)
      first | exact ⟨HG2.out, .inl ⟨shAll a b t K (t.m.x.toNat + 1), rfl, rfl, c', HS2.out, hfa, HC2.out⟩⟩ | exact ⟨HG2.out, .inl ⟨shAll a b t K (t.m.x.toNat + 1), c', rfl, rfl, HS2.out, hfa, HC2.out⟩⟩
end Go.Proofs.Ytlndccbgbclnhaa
namespace Go.Proofs.Ytlndccbgbclnhaa
open Go.RowKit Go.Maps
set_option linter.unusedVariables false

theorem out_nilT (lo : Nat) (w : World) : Out lo w none 0 [] := ⟨⟨Nat.le_refl _, by simp, .inl rfl⟩, .inl rfl, .inl rfl⟩
theorem cell_apart {u u' : World} {bm k o : Nat} {v : Value} (hg : u.grownBy u' (some bm)) (hk : k ≠ bm) (hv : u.cell? ⟨k, o, none⟩ = some v) : u'.cell? ⟨k, o, none⟩ = some v :=
  (World.cell?_of_block (w := u) (a := ⟨k, o, none⟩) (hg.block k (World.block_lt_of_cell? u ⟨k, o, none⟩ hv) (fun e => hk (by cases e; rfl)))).trans hv
def mapShift (f : Nat → T) (n : Nat) (a b : Int) : List T × Bool := if (0 ≤ a ∧ a ≤ 100) ∧ 0 ≤ b ∧ b ≤ 100 then mapV (stShift a b) f n else ([], false)
theorem mapShift_len (f : Nat → T) (n : Nat) (a b : Int) : (mapShift f n a b).1.length ≤ 400 := by
  unfold mapShift
  split
  · exact mapV_len _ _ _
  · simp
set_option maxHeartbeats 2000000 in
theorem mapShiftI (w : World) (p : Option Addr) (n cap : Nat) (f : Nat → T) (a b : Int) (ha : Rd w p n cap f) :
    Calls Try.prog 8 #[.slice p n cap, .int .i64 a, .int .i64 b] w fun r w' => ∃ a' cap', r = .returned (.tuple #[.slice a' (mapShift f n a b).1.length cap', .bool (mapShift f n a b).2]) ∧ Below w.heap.size w w' ∧ Out w.heap.size w' a' cap' (mapShift f n a b).1 := by
  have hB := bel_two w (.cells #[.int .i64 a] 3) (.cells #[.int .i64 b] 3)
  by_cases hra : 0 ≤ a ∧ a ≤ 100
  · by_cases hrb : 0 ≤ b ∧ b ≤ 100
    · have e1 : mapShift f n a b = mapV (stShift a b) f n := if_pos ⟨hra, hrb⟩
      have hlen := mapShift_len f n a b
      rw [e1] at hlen ⊢
      have q0 : ((w.alloc (.cells #[.int .i64 a] 3)).alloc (.cells #[.int .i64 b] 3)).cell? ⟨w.heap.size, 0, none⟩ = some (.int .i64 a) := by go_simp
      have q1 : ((w.alloc (.cells #[.int .i64 a] 3)).alloc (.cells #[.int .i64 b] 3)).cell? ⟨w.heap.size + 1, 0, none⟩ = some (.int .i64 b) := by go_simp
      have hsz : ((w.alloc (.cells #[.int .i64 a] 3)).alloc (.cells #[.int .i64 b] 3)).heap.size = w.heap.size + 1 + 1 := by simp
      have hc := mapEachV ((w.alloc (.cells #[.int .i64 a] 3)).alloc (.cells #[.int .i64 b] 3)) p n cap f 32 #[.pointer (some ⟨w.heap.size, 0, none⟩), .pointer (some ⟨w.heap.size + 1, 0, none⟩)] (stShift a b) (fun W => W.cell? ⟨w.heap.size, 0, none⟩ = some (.int .i64 a) ∧ W.cell? ⟨w.heap.size + 1, 0, none⟩ = some (.int .i64 b)) (enters_of Try.func32 (by kernel_rfl) rfl) (shiftTurns _ _ a b hra.1 hra.2 hrb.1 hrb.2)
        (fun W W' bm hq hlo hg => by
          rw [hsz] at hlo
          have n1 : w.heap.size ≠ bm := by omega
          have n2 : w.heap.size + 1 ≠ bm := by omega
          exact ⟨cell_apart hg n1 hq.1, cell_apart hg n2 hq.2⟩)
        (fun W' hq hb => ⟨(hb.cell (p := ⟨w.heap.size, 0, none⟩) (by rw [hsz]; show w.heap.size < _; omega)).trans hq.1, (hb.cell (p := ⟨w.heap.size + 1, 0, none⟩) (by rw [hsz]; show w.heap.size + 1 < _; omega)).trans hq.2⟩) ⟨q0, q1⟩ (ha.below hB)
      generalize mapV (stShift a b) f n = V at hc hlen ⊢
      clear ha e1 hsz
      go_enter Try.func8, Try.ntmps8
      go_wp2_with (first
        | (go_at_call 31; refine hc.mono ?_; rintro r w1 ⟨v, rfl, hb1, ho1⟩; have HB1 := Hid.mk' (bel_next hB hb1); have HO1 := Hid.mk' (owns_lower ho1 hB.size); clear hb1 ho1)
        | (go_at_call_of 30 a; refine (okI_in a _ hra.1 hra.2).mono ?_; rintro e w' ⟨rfl, hw'⟩; obtain rfl := hw'.symm; clear hw')
        | (go_at_call_of 30 b; refine (okI_in b _ hrb.1 hrb.2).mono ?_; rintro e w' ⟨rfl, hw'⟩; obtain rfl := hw'.symm; clear hw'))
      refine bodyPost_ret (results_tmp2 rfl _ _ _) rfl ?_
      obtain ⟨a', cap', rfl, hout⟩ := out_of_owns HO1.out (by omega)
      exact ⟨a', cap', rfl, HB1.out, hout⟩
    · have e1 : mapShift f n a b = ([], false) := if_neg (fun h => hrb h.2)
      rw [e1]
      go_enter Try.func8, Try.ntmps8
      go_wp2_with (first
        | (go_at_call_of 30 a; refine (okI_in a _ hra.1 hra.2).mono ?_; rintro e w' ⟨rfl, hw'⟩; obtain rfl := hw'.symm; clear hw')
        | (go_at_call_of 30 b; refine (okI_out b _ (by omega)).mono ?_; rintro e w' ⟨rfl, hw'⟩; obtain rfl := hw'.symm; clear hw'))
      all_goals (refine bodyPost_ret (results_tmp2 rfl _ _ _) rfl ?_)
      all_goals exact ⟨none, 0, rfl, hB, out_nilT _ _⟩
  · have e1 : mapShift f n a b = ([], false) := if_neg (fun h => hra h.1)
    rw [e1]
    go_enter Try.func8, Try.ntmps8
    go_wp2_with (go_at_call_of 30 a; refine (okI_out a _ (by omega)).mono ?_; rintro e w' ⟨rfl, hw'⟩; obtain rfl := hw'.symm; clear hw')
    all_goals (refine bodyPost_ret (results_tmp2 rfl _ _ _) rfl ?_)
    all_goals exact ⟨none, 0, rfl, hB, out_nilT _ _⟩
def stepsL (n c : Int) (k : Nat) : List Value := (List.range k).map fun (j : Nat) => .int .i64 (shN n (j : Int) c)
theorem stepsL_succ (n c : Int) (k : Nat) : stepsL n c (k + 1) = stepsL n c k ++ [.int .i64 (shN n (k : Int) c)] := by simp [stepsL, List.range_succ]
theorem infoI : (Try.prog.info? 3).map (fun i => (i.zero, i.size, i.bytes)) = some (some (.int .i64 0), 1, 8) := by kernel_rfl
set_option maxRecDepth 100000 in
set_option maxHeartbeats 4000000 in
theorem l5StepsS (w : World) (c n : Int) (c0 : 0 ≤ c) (c1 : c ≤ 100) (n0 : 0 ≤ n) (n1 : n ≤ 15) :
    Calls Try.prog 37 #[.int .i64 c, .int .i64 n] w fun r w' => ∃ g cap, r = .returned (.slice (some ⟨g, 0, none⟩) (n.toNat + 1) cap) ∧ Below w.heap.size w w' ∧ n.toNat + 1 ≤ cap ∧ g < w'.heap.size ∧ ∀ k : Nat, k < n.toNat + 1 → w'.cell? ⟨g, k, none⟩ = some (.int .i64 (shN n (k : Int) c)) := by
  obtain ⟨i0, hi0, hz0, hz1, hz2⟩ := info_parts infoI
  have hO0 : (w.alloc (.cells #[] 3)).ownsRow w.heap.size 3 1 (.slice (some ⟨w.heap.size, 0, none⟩) 0 0) 0 (stepsL n c 0) := World.ownsRow_lit _ _ _ (Nat.le_refl _) (Nat.zero_le _) rfl
  have hB0 := bel_one w (.cells #[] 3)
  go_enter Try.func37, Try.ntmps37
  go_wp2
  generalize w.alloc (.cells #[] 3) = w0 at *
  go_loopw [5, 6] (fun v kk wr => ∃ k : Nat, k ≤ n.toNat + 1 ∧ kk = .int .i64 (k : Int) ∧ wr.ownsRow w.heap.size 3 1 v k (stepsL n c k) ∧ Below w.heap.size w wr) (fun _ kk _ => n.toNat + 1 - (intOf kk).toNat)
  case atStart => exact ⟨0, Nat.zero_le _, rfl, hO0, hB0⟩
  case round =>
    obtain ⟨k, hk, rfl, hown, hbl⟩ := hrel
    by_cases hlt : k < n.toNat + 1
    · have hkl : (k : Int) ≤ n := by omega
      have hch := fChoose_rangeT n k
      have hwr : IntKind.i64.wrap (n - k) = n - k := by rw [IntKind.wrap_i64]; omega
      obtain ⟨P, hpb, hsh, hpw⟩ : ∃ P : Int, (0 ≤ P ∧ P ≤ 100) ∧ fChoose n k * P % 101 = shN n k c ∧ ∀ u : World, Calls Try.prog 71 #[.int .i64 c, .int .i64 (n - k)] u fun e w' => e = .returned (.int .i64 P) ∧ w' = u := by
        refine ⟨pw c (n - k).toNat, pw_bd _ _, rfl, fun u => ?_⟩
        have := powS c (n - k) u
        have e2 : fPow c (n - k) = pw c (n - k).toNat := if_pos ⟨c0, c1, by omega, by omega⟩
        rwa [e2] at this
      have hmb := mul_bd hch.1 hch.2 hpb.1 hpb.2
      have hwm : IntKind.i64.wrap (fChoose n k * P) = fChoose n k * P := by rw [IntKind.wrap_i64]; omega
      have htm : (fChoose n k * P).tmod 101 = shN n k c := (Int.tmod_eq_emod_of_nonneg hmb.1).trans hsh
      have HO := Hid.mk' hown
      have HB := Hid.mk' hbl
      clear hch hpb hmb hsh hown hbl
      go_wp2_with (first
        | (go_at_call 70; refine (chooseS _ _ _).mono ?_; rintro e w' ⟨rfl, hw'⟩; obtain rfl := hw'.symm; clear hw')
        | (go_at_call 71; refine (hpw _).mono ?_; rintro e w' ⟨rfl, hw'⟩; obtain rfl := hw'.symm; clear hw')
        | (at_builtin; refine wpList_append_lies _ rfl (.tmp 13) (.tmp 24) 59 rfl w.heap.size 3 i0 _ 1 8 Try.underlying59 hi0 hz0 hz1 hz2 rfl (by omega) _ k (stepsL n c k) rfl (HO.out.alloc _) ⟨wr.heap.size, 0, none⟩ 1 1 [.int .i64 (shN n (k : Int) c)] rfl rfl (World.news_of_block (heap_alloc_new wr _)) (fun u hu => by rw [List.mem_singleton.1 hu]; rfl) (by omega) (by unfold maxLen; omega) (by omega) (by have := HB.out.size; simp; omega) _ rfl ?_; intro g0 cap0 w1 hown1 hgrow hat hlt1; have HB1 := Hid.mk' ((HB.out.alloc HB.out.size _).grown hgrow (Nat.le_trans HB.out.size (by simp)) (fun j hj => (HO.out.lt j hj).1)); have HO1 := Hid.mk' hown1; clear hown1 hgrow hat hlt1))
      go_roundw
      case rel => exact ⟨k + 1, by omega, by go_num, by rw [stepsL_succ]; exact HO1.out, HB1.out⟩
      case measure => simp [intOf]; omega
    · obtain rfl : k = n.toNat + 1 := by omega
      have hkl : ¬ ((n.toNat + 1 : Nat) : Int) ≤ n := by omega
      have HO := Hid.mk' hown
      have HB := Hid.mk' hbl
      clear hown hbl
      go_wp2
      go_ret
      rcases HO.out.2 with ⟨_, h0⟩ | ⟨g, cap, cur, rfl, hlo, hg, hn, hm, hs, ht⟩
      · omega
      · refine ⟨g, cap, rfl, HB.out, hn, (Array.getElem?_eq_some_iff.1 hg).1, fun k hk => ?_⟩
        have e3 : cur.toList[k]? = some (.int .i64 (shN n (k : Int) c)) := by
          have h1 : (cur.toList.take ((n.toNat + 1) * 1))[k]? = (stepsL n c (n.toNat + 1))[k]? := by rw [ht]
          rw [List.getElem?_take_of_lt (by omega)] at h1
          rw [h1, stepsL, List.getElem?_map, List.getElem?_range hk]
          rfl
        simp [World.cell?, hg]
        simpa using e3
abbrev Y5 (pb o gx k gy y bx : Nat) (t : T) (vx vy : Int) (u : World) : Prop := u.cell? ⟨pb, o, none⟩ = some (.int .i64 t.c) ∧ u.cell? ⟨gx, k, none⟩ = some (.int .i64 vx) ∧ u.cell? ⟨gy, y, none⟩ = some (.int .i64 vy) ∧ u.cell? ⟨bx, 2, none⟩ = some (.int .i64 t.m.d) ∧ u.cell? ⟨bx, 3, none⟩ = some (.int .i64 t.m.e)
theorem cell_under {u u' : World} {k o : Nat} {v : Value} (hb : Below u.heap.size u u') (hv : u.cell? ⟨k, o, none⟩ = some v) : u'.cell? ⟨k, o, none⟩ = some v := (hb.cell (p := ⟨k, o, none⟩) (World.block_lt_of_cell? u ⟨k, o, none⟩ hv)).trans hv
theorem Y5.below {pb o gx k gy y bx : Nat} {t : T} {vx vy : Int} {u u' : World} (h : Y5 pb o gx k gy y bx t vx vy u) (hb : Below u.heap.size u u') : Y5 pb o gx k gy y bx t vx vy u' :=
  ⟨cell_under hb h.1, cell_under hb h.2.1, cell_under hb h.2.2.1, cell_under hb h.2.2.2.1, cell_under hb h.2.2.2.2⟩
set_option maxRecDepth 100000 in
set_option maxHeartbeats 16000000 in
theorem mapShiftS (w : World) (p : Option Addr) (n cap : Nat) (f : Nat → T) (a b : Int) (h : Rd w p n cap f) :
    Calls Try.prog 9 #[.slice p n cap, .int .i64 a, .int .i64 b] w fun r w' => ∃ v, r = .returned (.tuple #[v, .bool (mapShift f n a b).2]) ∧ Below w.heap.size w w' ∧ w'.ownsRow w.heap.size 52 5 v (mapShift f n a b).1.length (cellsL (mapShift f n a b).1) := by
  have HA := Hid.mk' h
  have hn : (n : Int) ≤ 140737488351232 := by have := h.2.1; omega
  have hO0 := owns_none w w.heap.size (Nat.le_refl _)
  have hB0 := bel_one w (.cells #[] 52)
  clear h
  cases hpa : polOk n f
  · have e1 : mapShift f n a b = ([], false) := by simp [mapShift, mapV, hpa]
    rw [e1]
    go_enter Try.func9, Try.ntmps9
    go_wp2_with (go_at_call 36; refine (polOkS _ _ _ _ f (HA.out.below hB0)).mono ?_; rw [hpa]; rintro r w1 ⟨rfl, hb1⟩; have HB1 := Hid.mk' (bel_next hB0 hb1); have HO1 := Hid.mk' (owns_below hO0 hb1); clear hb1)
    all_goals (refine bodyPost_ret (results_tmp2 rfl _ _ _) rfl ?_)
    all_goals exact ⟨_, rfl, HB1.out, HO1.out⟩
  by_cases hra : 0 ≤ a ∧ a ≤ 100
  case neg =>
    have e1 : mapShift f n a b = ([], false) := if_neg (fun h => hra h.1)
    rw [e1]
    go_enter Try.func9, Try.ntmps9
    go_wp2_with (first
      | (go_at_call 36; refine (polOkS _ _ _ _ f (HA.out.below hB0)).mono ?_; rw [hpa]; rintro r w1 ⟨rfl, hb1⟩; have HB1 := Hid.mk' (bel_next hB0 hb1); have HO1 := Hid.mk' (owns_below hO0 hb1); clear hb1)
      | (go_at_call_of 14 a; refine (okS_out a _ (by omega)).mono ?_; rintro e w' ⟨rfl, hw'⟩; obtain rfl := hw'.symm; clear hw'))
    all_goals (refine bodyPost_ret (results_tmp2 rfl _ _ _) rfl ?_)
    all_goals exact ⟨_, rfl, HB1.out, HO1.out⟩
  by_cases hrb : 0 ≤ b ∧ b ≤ 100
  case neg =>
    have e1 : mapShift f n a b = ([], false) := if_neg (fun h => hrb h.2)
    rw [e1]
    go_enter Try.func9, Try.ntmps9
    go_wp2_with (first
      | (go_at_call 36; refine (polOkS _ _ _ _ f (HA.out.below hB0)).mono ?_; rw [hpa]; rintro r w1 ⟨rfl, hb1⟩; have HB1 := Hid.mk' (bel_next hB0 hb1); have HO1 := Hid.mk' (owns_below hO0 hb1); clear hb1)
      | (go_at_call_of 14 a; refine (okS_in a _ hra.1 hra.2).mono ?_; rintro e w' ⟨rfl, hw'⟩; obtain rfl := hw'.symm; clear hw')
      | (go_at_call_of 14 b; refine (okS_out b _ (by omega)).mono ?_; rintro e w' ⟨rfl, hw'⟩; obtain rfl := hw'.symm; clear hw'))
    all_goals (refine bodyPost_ret (results_tmp2 rfl _ _ _) rfl ?_)
    all_goals exact ⟨_, rfl, HB1.out, HO1.out⟩
  have e1 : mapShift f n a b = mulO (eachM (stShift a b) f n) := by simp [mapShift, mapV, hpa, hra, hrb]
  rw [e1]
  clear e1
  have l1 := (good_ok hpa).1
  have HPA := Hid.mk' hpa
  go_enter Try.func9, Try.ntmps9
  go_wp2_with (first
    | (go_at_call 36; refine (polOkS _ _ _ _ f (HA.out.below hB0)).mono ?_; rw [hpa]; rintro r w1 ⟨rfl, hb1⟩; have HB1 := Hid.mk' (bel_next hB0 hb1); have HO1 := Hid.mk' (owns_below hO0 hb1); clear hb1)
    | (go_at_call_of 14 a; refine (okS_in a _ hra.1 hra.2).mono ?_; rintro e w' ⟨rfl, hw'⟩; obtain rfl := hw'.symm; clear hw')
    | (go_at_call_of 14 b; refine (okS_in b _ hrb.1 hrb.2).mono ?_; rintro e w' ⟨rfl, hw'⟩; obtain rfl := hw'.symm; clear hw'))
  clear hO0 hB0
  go_loopw [8, 9] (fun v ii wr => ∃ (i : Nat) (K : List T), i ≤ n ∧ ii = .int .i64 (i : Int) ∧ eachM (stShift a b) f i = some K ∧ Falls K ∧ wr.ownsRow w.heap.size 52 5 v K.length (cellsL K) ∧ Below w.heap.size w wr) (fun _ ii _ => n - (intOf ii).toNat)
  case atStart => exact ⟨0, [], Nat.zero_le _, rfl, rfl, falls_nil, HO1.out, HB1.out⟩
  case round =>
    obtain ⟨i, K, hi, rfl, hM, hKf, hown, hbl⟩ := hrel
    by_cases hlt : i < n
    · have hil : (i : Int) < (n : Int) := by omega
      have hfi := (fl_of_ok HPA.out).2 i hlt
      have hKl := eachM_len i K hM
      have HM := Hid.mk' hM
      have HOWN := Hid.mk' hown
      have HBL := Hid.mk' hbl
      clear hown hbl hM
      have hri := HA.out.below HBL.out
      rcases hri.2.2 with h0 | ⟨pb, off, hpe, hblt, hcl⟩
      · omega
      subst hpe
      obtain ⟨g0, g1, g2, g3, g4⟩ := hcl i hlt
      clear hcl hri
      have hdb := M.ok_iff.1 hfi.1
      go_wp2_with fail
      have hq := M4.box wr 50 (f i).m.x (f i).m.y (f i).m.d (f i).m.e
      obtain ⟨q0, q1, q2, q3⟩ := hq
      have g5 := cell_under (bel_one wr (.cells #[.int .i64 (f i).m.x, .int .i64 (f i).m.y, .int .i64 (f i).m.d, .int .i64 (f i).m.e] 50)) g0
      have HBQ := Hid.mk' (bel_next HBL.out (bel_one wr (.cells #[.int .i64 (f i).m.x, .int .i64 (f i).m.y, .int .i64 (f i).m.d, .int .i64 (f i).m.e] 50)))
      have HOQ := Hid.mk' (owns_below HOWN.out (bel_one wr (.cells #[.int .i64 (f i).m.x, .int .i64 (f i).m.y, .int .i64 (f i).m.d, .int .i64 (f i).m.e] 50)))
      clear g0 g1 g2 g3 g4
      generalize wr.alloc (.cells #[.int .i64 (f i).m.x, .int .i64 (f i).m.y, .int .i64 (f i).m.d, .int .i64 (f i).m.e] 50) = wq at HBQ HOQ q0 q1 q2 q3 g5 ⊢
      generalize wr.heap.size = bx at *
      refine (l5StepsS _ a (f i).m.x hra.1 hra.2 (by omega) (by omega)).mono ?_
      rintro r w2 ⟨gx, cx, rfl, hb2, hcx, _, hxs⟩
      generalize hLX : (f i).m.x.toNat + 1 = LX at *
      have HLX := Hid.mk' hLX
      clear hLX
      have p1 := cell_under hb2 q1
      have HB2 := Hid.mk' hb2
      have HXS := Hid.mk' hxs
      have HQ := Hid.mk' (And.intro g5 (And.intro q2 q3))
      clear hb2 hxs q0 q1 q2 q3 g5
      go_wp2_with fail
      refine (l5StepsS _ b (f i).m.y hrb.1 hrb.2 (by omega) (by omega)).mono ?_
      rintro r w3 ⟨gy, cy, rfl, hb3, hcy, _, hys⟩
      generalize hLY : (f i).m.y.toNat + 1 = LY at *
      have HLY := Hid.mk' hLY
      clear hLY
      have HB3 := Hid.mk' (bel_next (bel_next HBQ.out HB2.out) hb3)
      have HO3 := Hid.mk' (owns_below (owns_below HOQ.out HB2.out) hb3)
      have HF : Hid (∀ k : Nat, k < LX → ∀ y : Nat, y < LY → Y5 pb (off + i * 5) gx k gy y bx (f i) (shN (f i).m.x k a) (shN (f i).m.y y b) w3) := fun k hk y hy => ⟨cell_under hb3 (cell_under HB2.out HQ.out.1), cell_under hb3 (HXS.out k hk), hys y hy, cell_under hb3 (cell_under HB2.out HQ.out.2.1), cell_under hb3 (cell_under HB2.out HQ.out.2.2)⟩
      clear hb3 hys p1 HXS HQ HB2 HBQ HOQ
      go_wp2_with fail
      go_loopw [8, 13] (fun v kk wr2 => ∃ k : Nat, k ≤ LX ∧ kk = .int .i64 (k : Int) ∧ wr2.ownsRow w.heap.size 52 5 v (shAll a b (f i) K k).length (cellsL (shAll a b (f i) K k)) ∧ Below w3.heap.size w3 wr2) (fun _ kk _ => LX - (intOf kk).toNat)
      case atStart => exact ⟨0, Nat.zero_le _, rfl, HO3.out, Below.refl _ _⟩
      case round =>
        obtain ⟨k, hk, rfl, hown, hbl⟩ := hrel
        have hal := shAll_len a b (f i) K k
        have hkm : k * ((f i).m.y.toNat + 1) ≤ 16 * 16 := Nat.mul_le_mul (by have := HLX.out; omega) (by omega)
        by_cases hlk : k < LX
        · have hkl : (k : Int) < (LX : Int) := by omega
          have hki : (k : Int) ≤ (f i).m.x := by have := HLX.out; omega
          have hfa := Hid.mk' (shAll_falls (a := a) (b := b) hfi.1 hKf k (by have := HLX.out; omega))
          have HO4 := Hid.mk' hown
          have HB4 := Hid.mk' hbl
          clear hown hbl
          go_wp2_with fail
          go_loopw [8, 14] (fun v yy wr3 => ∃ y : Nat, y ≤ LY ∧ yy = .int .i64 (y : Int) ∧ wr3.ownsRow w.heap.size 52 5 v (shRow a b (f i) k (shAll a b (f i) K k) y).length (cellsL (shRow a b (f i) k (shAll a b (f i) K k) y)) ∧ Below w3.heap.size w3 wr3) (fun _ yy _ => LY - (intOf yy).toNat)
          case atStart => exact ⟨0, Nat.zero_le _, rfl, HO4.out, HB4.out⟩
          case round =>
            obtain ⟨y, hy, rfl, hown, hbl⟩ := hrel
            by_cases hly : y < LY
            · have hyl : (y : Int) < (LY : Int) := by omega
              have hyi : (y : Int) ≤ (f i).m.y := by have := HLY.out; omega
              have hrl := shRow_len a b (f i) k (shAll a b (f i) K k) y
              have hrf := shRow_falls (a := a) (b := b) hfi.1 hki hfa.out y (by have := HLY.out; omega)
              have hsv := shV_range a b (f i) k y
              have hvx := shN_range (f i).m.x k a
              have hvy := shN_range (f i).m.y y b
              have hm1 := mul_bd (show 0 ≤ (f i).c by omega) hfi.2.2 hvx.1 hvx.2
              have hm2 := mul_bd (show 0 ≤ (f i).c * shN (f i).m.x k a % 101 by omega) (show (f i).c * shN (f i).m.x k a % 101 ≤ 100 by omega) hvy.1 hvy.2
              have w1a : IntKind.i64.wrap ((f i).c * shN (f i).m.x k a) = (f i).c * shN (f i).m.x k a := by rw [IntKind.wrap_i64]; omega
              have t1a : ((f i).c * shN (f i).m.x k a).tmod 101 = (f i).c * shN (f i).m.x k a % 101 := Int.tmod_eq_emod_of_nonneg hm1.1
              have w2a : IntKind.i64.wrap ((f i).c * shN (f i).m.x k a % 101 * shN (f i).m.y y b) = (f i).c * shN (f i).m.x k a % 101 * shN (f i).m.y y b := by rw [IntKind.wrap_i64]; omega
              have t2a : ((f i).c * shN (f i).m.x k a % 101 * shN (f i).m.y y b).tmod 101 = shV a b (f i) k y := Int.tmod_eq_emod_of_nonneg hm2.1
              have hS0 : Y5 pb (off + i * 5) gx k gy y bx (f i) (shN (f i).m.x k a) (shN (f i).m.y y b) wr.drew := (HF.out k hlk y hly).below hbl.drew
              have HPUT := Hid.mk' (l4PutS wr.drew w.heap.size _ (shRow a b (f i) k (shAll a b (f i) K k) y) (shV a b (f i) k y) k y (f i).m.d (f i).m.e (owns_below hown (Below.refl _ _).drew) (bel_next HB3.out hbl).drew.size (by omega) (cok_falls hrf) hsv.1 hsv.2)
              have HBW := Hid.mk' hbl.drew
              clear hm1 hm2 hvx hvy hrf hrl hown hbl
              go_wp2_with fail
              go_region_held3 (fun u => u.cell? ⟨pb, off + i * 5, none⟩ = some (.int .i64 (f i).c) ∧ u.cell? ⟨gx, k, none⟩ = some (.int .i64 (shN (f i).m.x k a)) ∧ u.cell? ⟨gy, y, none⟩ = some (.int .i64 (shN (f i).m.y y b)) ∧ u.cell? ⟨bx, 2, none⟩ = some (.int .i64 (f i).m.d) ∧ u.cell? ⟨bx, 3, none⟩ = some (.int .i64 (f i).m.e)) (first | with_reducible exact hS0 | with_reducible exact Y5.below hS0 hb5) (first | (go_at_call 38; refine HPUT.out.mono ?_; rintro e w5 ⟨v5, rfl, hb5, ho5⟩; have HB5 := Hid.mk' (bel_next HBW.out hb5); have HO5 := Hid.mk' ho5; clear ho5))
              all_goals
                go_wp2
                go_roundw
                case rel => exact ⟨y + 1, by omega, by go_num, HO5.out, HB5.out⟩
                case measure => simp [intOf]; omega
            · have ey : LY = y := by omega
              subst ey
              have hyl : ¬ (LY : Int) < (LY : Int) := by omega
              have HO5 := Hid.mk' hown
              have HB5 := Hid.mk' hbl
              clear hown hbl
              go_wp2
              go_roundw
              case rel => exact ⟨k + 1, by omega, by go_num, by rw [shAll, HLY.out]; exact HO5.out, HB5.out⟩
              case measure => simp [intOf]; omega
        · have ek : LX = k := by omega
          subst ek
          have hkl : ¬ (LX : Int) < (LX : Int) := by omega
          have hfa := shAll_falls (a := a) (b := b) hfi.1 hKf LX (by have := HLX.out; omega)
          have HO5 := Hid.mk' hown
          have HB5 := Hid.mk' (bel_next HB3.out hbl)
          obtain ⟨pv, cv, hpv, _⟩ := out_of_owns hown (by omega)
          subst hpv
          clear hown hbl
          by_cases h4 : (shAll a b (f i) K LX).length ≤ 400
          · have h4' : ((shAll a b (f i) K LX).length : Int) ≤ 400 := by omega
            have HST : Hid (eachM (stShift a b) f (i + 1) = some (shAll a b (f i) K LX)) := by
              show _ = _
              rw [eachM, HM.out]
              show (stShift a b K (f i)).bind lim4 = _
              rw [stShift, HLX.out]
              exact if_pos h4
            go_wp2
            go_roundw
            case rel => exact ⟨i + 1, _, by omega, by go_num, HST.out, hfa, HO5.out, HB5.out⟩
            case measure => simp [intOf]; omega
          · have h4' : (400 : Int) < ((shAll a b (f i) K LX).length : Int) := by omega
            have HST : Hid (eachM (stShift a b) f n = none) := eachM_none (i := i + 1) (by rw [eachM, HM.out]; show (stShift a b K (f i)).bind lim4 = _; rw [stShift, HLX.out]; exact if_neg h4) n (by omega)
            go_wp2
            refine bodyPost_ret (results_tmp2 rfl _ _ _) rfl ?_
            rw [HST.out]
            exact ⟨_, rfl, HB5.out.alloc HB5.out.size _, owns_none _ w.heap.size HB5.out.size⟩
    · obtain rfl : i = n := by omega
      have HM := Hid.mk' hM
      have HOWN := Hid.mk' hown
      have HBL := Hid.mk' hbl
      clear hown hbl hM
      go_wp2
      refine bodyPost_ret (results_tmp2 rfl _ _ _) rfl ?_
      rw [HM.out]
      exact ⟨_, rfl, HBL.out, HOWN.out⟩
end Go.Proofs.Ytlndccbgbclnhaa
namespace Go.Proofs.Ytlndccbgbclnhaa
open Go.RowKit
set_option linter.unusedVariables false

def fpow (c : Fq) : Nat → Fq
  | 0 => 1
  | n + 1 => fpow c n * c
theorem pw_zz (c : Int) : ∀ n, zz (pw c n) = fpow (zz c) n
  | 0 => rfl
  | n + 1 => by show zz (pw c n * c % 101) = _; rw [zz_mod, zz_mul, pw_zz c n]; rfl
theorem chF : ∀ n k : Fin 16, k.val ≤ n.val → zz (fChoose (n.val : Int) (k.val : Int)) = nf (chN n.val k.val) := by decide +kernel
theorem zz_choose {n : Int} {k : Nat} (n0 : 0 ≤ n) (n1 : n ≤ 15) (hk : (k : Int) ≤ n) : zz (fChoose n k) = nf (chN n.toNat k) := by
  have h := chF ⟨n.toNat, by omega⟩ ⟨k, by omega⟩ (by show k ≤ n.toNat; omega)
  simp only [Int.toNat_of_nonneg n0] at h
  exact h
theorem zz_shN {n c : Int} {k : Nat} (n0 : 0 ≤ n) (n1 : n ≤ 15) (hk : (k : Int) ≤ n) : zz (shN n k c) = nf (chN n.toNat k) * fpow (zz c) (n.toNat - k) := by
  unfold shN
  rw [zz_mod, zz_mul, zz_choose n0 n1 hk, pw_zz, show (n - (k : Int)).toNat = n.toNat - k by omega]
/-- a time and a number, so many times. -/
theorem binom (x : Lq) (c : Fq) : ∀ n, Lq.pow (Lq.sum x (Lq.sc c Lq.one)) n = Lq.sumN (fun j => Lq.sc (nf (chN n j) * fpow c (n - j)) (Lq.pow x j)) (n + 1)
  | 0 => by
    show Lq.one = Lq.sum Lq.nil (Lq.sc (nf 1 * 1) Lq.one)
    rw [Lq.sum_comm, Lq.sum_nil, nf_one, show (1 : Fq) * 1 = 1 by decide, Lq.sc_one]
  | n + 1 => by
    rw [Lq.pow, binom x c n, Lq.mul_sum, Lq.sumN_mul, Lq.mul_sc, Lq.mul_one, Lq.sc_sumN]
    have e1 : Lq.sumN (fun j => Lq.mul (Lq.sc (nf (chN n j) * fpow c (n - j)) (Lq.pow x j)) x) (n + 1) = Lq.sumN (fun j => Lq.sc (nf (chN n j) * fpow c (n + 1 - (j + 1))) (Lq.pow x (j + 1))) (n + 1) :=
      Lq.sumN_congr (fun j hj => by rw [Lq.sc_mul, show n + 1 - (j + 1) = n - j by omega]; rfl)
    have e2 : Lq.sumN (fun j => Lq.sc c (Lq.sc (nf (chN n j) * fpow c (n - j)) (Lq.pow x j))) (n + 1) = Lq.sumN (fun j => Lq.sc (nf (chN n j) * fpow c (n + 1 - j)) (Lq.pow x j)) (n + 1 + 1) := by
      rw [Lq.sumN.eq_2 _ (n + 1), chN_high n (n + 1) (by omega), nf_zero, show (0 : Fq) * fpow c (n + 1 - (n + 1)) = 0 by grind, Lq.sc_zero, Lq.sum_nil]
      refine Lq.sumN_congr (fun j hj => ?_)
      rw [Lq.sc_sc, show n + 1 - j = n - j + 1 by omega]
      congr 1
      show c * (nf (chN n j) * fpow c (n - j)) = nf (chN n j) * (fpow c (n - j) * c)
      grind
    rw [e1, e2, Lq.sumN_head (fun j => Lq.sc (nf (chN n j) * fpow c (n + 1 - j)) (Lq.pow x j)), Lq.sumN_head (fun j => Lq.sc (nf (chN (n + 1) j) * fpow c (n + 1 - j)) (Lq.pow x j)), chN_zero, chN_zero, Lq.sum_comm, Lq.sum_assoc]
    congr 1
    rw [← Lq.sumN_sum]
    refine Lq.sumN_congr (fun j hj => ?_)
    rw [chN, nf_add, ← Lq.sc_add]
    congr 1
    grind
theorem sh_wey {x d : Lq} (h : Wey x d) (c : Fq) : Wey (Lq.sum x (Lq.sc c Lq.one)) d := by
  unfold Wey
  rw [Lq.sum_mul, Lq.mul_sum, h, Lq.sc_mul, Lq.mul_sc, Lq.one_mul, Lq.mul_one]
  refine Lq.ext fun u n k => ?_
  simp only [sum_f, sc_f]
  grind
theorem com_one {A C : Lq} (h1 : Lq.Com A C) (c : Fq) : Lq.Com (Lq.sum A (Lq.sc c Lq.one)) C := com_sum h1 (Lq.Com.one C).symm c
def shiftG (a b : Fq) (g : Gen) : Gen := ⟨Lq.sum g.x (Lq.sc a Lq.one), Lq.sum g.y (Lq.sc b Lq.one), g.d, g.e, sh_wey g.wx a, sh_wey g.wy b, com_one (com_one g.xy.symm b).symm a, com_one g.xe a, (com_one g.dy.symm b).symm, g.de⟩
theorem shiftG_zero (g : Gen) : shiftG 0 0 g = g := gen_ext (by show Lq.sum g.x (Lq.sc 0 Lq.one) = g.x; rw [Lq.sc_zero, Lq.sum_nil]) (by show Lq.sum g.y (Lq.sc 0 Lq.one) = g.y; rw [Lq.sc_zero, Lq.sum_nil]) rfl rfl
theorem shiftG_add (a b c d : Fq) (g : Gen) : shiftG a b (shiftG c d g) = shiftG (a + c) (b + d) g := gen_ext (by
  show Lq.sum (Lq.sum g.x (Lq.sc c Lq.one)) (Lq.sc a Lq.one) = Lq.sum g.x (Lq.sc (a + c) Lq.one)
  rw [Lq.sum_assoc, Lq.sc_add, Lq.sum_comm (Lq.sc c Lq.one)]) (by
  show Lq.sum (Lq.sum g.y (Lq.sc d Lq.one)) (Lq.sc b Lq.one) = Lq.sum g.y (Lq.sc (b + d) Lq.one)
  rw [Lq.sum_assoc, Lq.sc_add, Lq.sum_comm (Lq.sc d Lq.one)]) rfl rfl
theorem shRow_Rp (φ : M → Lq) {a b : Int} {t : T} (h : t.m.ok = true) {x : Nat} (hx : (x : Int) ≤ t.m.x) {K : List T} (hK : Falls K) : ∀ y : Nat, (y : Int) ≤ t.m.y + 1 → Rg φ (shRow a b t x K y) = Lq.sum (Rg φ K) (Lq.sumN (fun j => Lq.sc (zz (shV a b t x j)) (φ (shM t x j))) y)
  | 0, _ => (Lq.sum_nil _).symm
  | y + 1, hy => by
    show Rg φ (putT (shV a b t x y) (shM t x y) (shRow a b t x K y)) = _
    rw [Rg_put φ (shRow_falls h hx hK y (by omega)) (shM_ok h hx (by omega)) (shV_range ..).1 (shV_range ..).2, shRow_Rp φ h hx hK y (by omega), Lq.sum_assoc]
    rfl
theorem shAll_Rp (φ : M → Lq) {a b : Int} {t : T} (h : t.m.ok = true) {K : List T} (hK : Falls K) : ∀ x : Nat, (x : Int) ≤ t.m.x + 1 → Rg φ (shAll a b t K x) = Lq.sum (Rg φ K) (Lq.sumN (fun i => Lq.sumN (fun j => Lq.sc (zz (shV a b t i j)) (φ (shM t i j))) (t.m.y.toNat + 1)) x)
  | 0, _ => (Lq.sum_nil _).symm
  | x + 1, hx => by
    show Rg φ (shRow a b t x (shAll a b t K x) (t.m.y.toNat + 1)) = _
    have := M.ok_iff.1 h
    rw [shRow_Rp φ h (by omega) (shAll_falls h hK x (by omega)) _ (by omega), shAll_Rp φ h hK x (by omega), Lq.sum_assoc]
    rfl
theorem shift_adds (g : Gen) (a b : Int) : Adds (mo g) (mo (shiftG (zz a) (zz b) g)) (stShift a b) := fun K t K' hK ht h => by
  obtain ⟨x1, x2, y1, y2, d1, d2, e1, e2⟩ := M.ok_iff.1 ht.1
  have h2 : K' = shAll a b t K (t.m.x.toNat + 1) := by unfold stShift at h; exact (Option.some.inj h).symm
  rw [h2]
  refine ⟨shAll_falls ht.1 hK _ (by omega), ?_⟩
  rw [shAll_Rp (mo g) ht.1 hK _ (by omega)]
  congr 1
  show _ = Lq.sc (zz t.c) (Lq.mul (Lq.mul (Lq.pow (Lq.sum g.x (Lq.sc (zz a) Lq.one)) t.m.x.toNat) (Lq.pow (Lq.sum g.y (Lq.sc (zz b) Lq.one)) t.m.y.toNat)) (Lq.mul (Lq.pow g.d t.m.d.toNat) (Lq.pow g.e t.m.e.toNat)))
  rw [binom, binom, Lq.sumN_mul, Lq.sumN_mul, Lq.sc_sumN]
  refine Lq.sumN_congr (fun i hi => ?_)
  rw [Lq.mul_sumN, Lq.sumN_mul, Lq.sc_sumN]
  refine Lq.sumN_congr (fun j hj => ?_)
  rw [Lq.sc_mul, Lq.mul_sc, Lq.sc_mul, Lq.sc_mul, Lq.sc_sc, Lq.sc_sc]
  have hc : zz (shV a b t i j) = zz t.c * (nf (chN t.m.x.toNat i) * fpow (zz a) (t.m.x.toNat - i)) * (nf (chN t.m.y.toNat j) * fpow (zz b) (t.m.y.toNat - j)) := by
    unfold shV
    rw [zz_mod, zz_mul, zz_mod, zz_mul, zz_shN x1 x2 (by omega), zz_shN y1 y2 (by omega)]
  rw [hc]
  show Lq.sc _ (Lq.mul (Lq.mul (Lq.pow g.x ((i : Int)).toNat) (Lq.pow g.y ((j : Int)).toNat)) (Lq.mul (Lq.pow g.d t.m.d.toNat) (Lq.pow g.e t.m.e.toNat))) = _
  rw [show ((i : Int)).toNat = i by omega, show ((j : Int)).toNat = j by omega]
def shVl (L : List T) (a b : Int) : List T × Bool := mapShift (lf L) L.length a b
theorem shVl_if (L : List T) (a b : Int) : shVl L a b = ([], false) ∨ ∃ X, shVl L a b = (X, true) := by
  unfold shVl mapShift
  split
  · exact mapV_if _ L
  · exact .inl rfl
theorem sh_facts {L X : List T} {a b : Int} (h : shVl L a b = (X, true)) : ((0 ≤ a ∧ a ≤ 100) ∧ 0 ≤ b ∧ b ≤ 100) ∧ okL L = true ∧ okL X = true ∧ ∀ g, Rp g X = Rp (shiftG (zz a) (zz b) g) L := by
  unfold shVl mapShift at h
  split at h
  · rename_i hc
    have h1 := fun g => map_Rg (shift_adds g a b) h
    exact ⟨hc, (h1 stdG).1, (h1 stdG).2.1, fun g => (h1 g).2.2⟩
  · simp at h
theorem sh_zero {L : List T} (h : okL L = true) : shVl L 0 0 = (L, true) := by
  unfold shVl mapShift
  rw [if_pos ⟨⟨by omega, by omega⟩, by omega, by omega⟩]
  refine map_self (by
    have := shift_adds stdG 0 0
    rw [zz_zero, shiftG_zero] at this
    exact this) (fun K t hK ht => ⟨_, rfl⟩) h
theorem sh_mul {A B X Y AB U V : List T} {a b : Int} (h1 : shVl A a b = (X, true)) (h2 : shVl B a b = (Y, true)) (h3 : wmV A B = (AB, true)) (h4 : shVl AB a b = (U, true)) (h5 : wmV X Y = (V, true)) : U = V :=
  ok_eq (sh_facts h4).2.2.1 (wm_ok h5) (by rw [(sh_facts h4).2.2.2, Rp_mul _ h3, Rp_mul _ h5, (sh_facts h1).2.2.2, (sh_facts h2).2.2.2])
theorem sh_add {A X Z W : List T} {a b c d : Int} (h1 : shVl A a b = (X, true)) (h2 : shVl X c d = (Z, true)) (h3 : shVl A (fAdd a c) (fAdd b d) = (W, true)) : Z = W := by
  obtain ⟨r1, _, _, e1⟩ := sh_facts h1
  obtain ⟨r2, _, oZ, e2⟩ := sh_facts h2
  obtain ⟨_, _, oW, e3⟩ := sh_facts h3
  refine ok_eq oZ oW ?_
  rw [e2, e1, e3, shiftG_add, fAdd_in r1.1.1 r1.1.2 r2.1.1 r2.1.2, fAdd_in r1.2.1 r1.2.2 r2.2.1 r2.2.2, zz_mod, zz_add, zz_mod, zz_add]
end Go.Proofs.Ytlndccbgbclnhaa
