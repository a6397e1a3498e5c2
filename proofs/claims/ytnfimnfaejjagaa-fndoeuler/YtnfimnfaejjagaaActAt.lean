/-
  What a form of the times is where they are two numbers: both the model and the program.
-/
import Derived.Test.YtnfimnfaejjagaaGap
namespace Go.Proofs.Ytnfimnfaejjagaa
open Go.RowKit
set_option linter.unusedVariables false

def atT (f : Nat → T) (x y : Int) : Nat → Int
  | 0 => 0
  | k + 1 => (atT f x y k + (f k).c * pw x (f k).m.x.toNat * pw y (f k).m.y.toNat) % 101
def actAt (n : Nat) (f : Nat → T) (x y : Int) : Int := if polFree n f = true ∧ okB x = true ∧ okB y = true then atT f x y n else 0
theorem atT_bd (f : Nat → T) (x y : Int) (k : Nat) : 0 ≤ atT f x y k ∧ atT f x y k ≤ 100 := by
  cases k with
  | zero => simp [atT]
  | succ k => simp only [atT]; omega
theorem polFree_ok {n : Nat} {f : Nat → T} (h : polFree n f = true) : polOk n f = true := by
  simp only [polFree, Bool.and_eq_true] at h
  exact h.1
theorem at_mod1 (s c p q : Int) : (s + (c * p % 101) * q) % 101 = (s + c * p * q) % 101 := by
  rw [Int.add_emod, Int.mul_emod, Int.emod_emod_of_dvd _ (Int.dvd_refl 101), ← Int.mul_emod, ← Int.add_emod]
theorem at_mod2 (s c p q : Int) : (s + (p * q % 101) * c % 101) % 101 = (s + c * p * q) % 101 := by
  rw [Int.add_emod s ((p * q % 101) * c % 101), Int.emod_emod_of_dvd _ (Int.dvd_refl 101), Int.mul_emod (p * q % 101) c, Int.emod_emod_of_dvd _ (Int.dvd_refl 101), ← Int.mul_emod, ← Int.add_emod]
  congr 2
  rw [Int.mul_comm (p * q) c, Int.mul_assoc]
theorem mul_lt {a b : Int} (a0 : 0 ≤ a) (a1 : a ≤ 100) (b0 : 0 ≤ b) (b1 : b ≤ 100) : 0 ≤ a * b ∧ a * b ≤ 10000 := by
  refine ⟨Int.mul_nonneg a0 b0, ?_⟩
  have := Int.mul_le_mul a1 b1 b0 (by omega : (0 : Int) ≤ 100)
  omega
set_option maxRecDepth 100000 in
set_option maxHeartbeats 4000000 in
theorem actAtS (w : World) (a : Option Addr) (n cap : Nat) (f : Nat → T) (x y : Int) (h : Rd w a n cap f) :
    Calls Try.prog 26 #[.slice a n cap, .int .i64 x, .int .i64 y] w fun r w' => r = .returned (.int .i64 (actAt n f x y)) ∧ Below w.heap.size w w' := by
  have HR := Hid.mk' h
  cases hp : polFree n f
  · have e1 : actAt n f x y = 0 := by simp [actAt, hp]
    rw [e1]
    clear h e1
    go_enter Try.func26, Try.ntmps26
    go_wp2_with fail
    refine (polFreeS _ _ _ _ f HR.out).mono ?_
    rw [hp]
    rintro r w1 ⟨rfl, hb⟩
    go_wp2
    go_ret
    exact ⟨rfl, hb⟩
  cases hx : okB x
  · have e1 : actAt n f x y = 0 := by simp [actAt, hx]
    rw [e1]
    clear h e1
    go_enter Try.func26, Try.ntmps26
    go_wp2_with fail
    refine (polFreeS _ _ _ _ f HR.out).mono ?_
    rw [hp]
    rintro r w1 ⟨rfl, hb⟩
    go_wp2_with (go_at_call 27; refine (okS _ _).mono ?_; rintro r w2 ⟨rfl, hw⟩; obtain rfl := hw.symm; clear hw)
    go_ret
    exact ⟨rfl, hb⟩
  cases hy : okB y
  · have e1 : actAt n f x y = 0 := by simp [actAt, hy]
    rw [e1]
    clear h e1
    go_enter Try.func26, Try.ntmps26
    go_wp2_with fail
    refine (polFreeS _ _ _ _ f HR.out).mono ?_
    rw [hp]
    rintro r w1 ⟨rfl, hb⟩
    go_wp2_with (go_at_call 27; refine (okS _ _).mono ?_; rintro r w2 ⟨rfl, hw⟩; obtain rfl := hw.symm; clear hw)
    go_ret
    exact ⟨rfl, hb⟩
  have e1 : actAt n f x y = atT f x y n := by simp [actAt, hp, hx, hy]
  rw [e1]
  obtain ⟨x0, x1⟩ := okB_in hx
  obtain ⟨y0, y1⟩ := okB_in hy
  have HM := Hid.mk' (polOk_m (polFree_ok hp))
  obtain ⟨hl, hc⟩ := polOk_c (polFree_ok hp)
  have HC := Hid.mk' hc
  obtain ⟨h1, h2, h3⟩ := h
  have hn : (n : Int) ≤ 400 := by omega
  clear e1 hc
  go_enter Try.func26, Try.ntmps26
  go_wp2_with fail
  refine (polFreeS _ _ _ _ f HR.out).mono ?_
  rw [hp]
  rintro r w1 ⟨rfl, hb⟩
  have HB1 := Hid.mk' hb
  clear hb hp
  go_wp2_with (go_at_call 27; refine (okS _ _).mono ?_; rintro r w2 ⟨rfl, hw⟩; obtain rfl := hw.symm; clear hw)
  go_loopw [7, 8] (fun s i wr => ∃ k : Nat, k ≤ n ∧ i = .int .i64 k ∧ s = .int .i64 (atT f x y k) ∧ Below w.heap.size w wr) (fun _ i _ => n - (intOf i).toNat)
  case atStart => exact ⟨0, Nat.zero_le _, rfl, rfl, HB1.out⟩
  case round =>
    obtain ⟨k, hk, rfl, rfl, hB⟩ := hrel
    by_cases hlt : k < n
    · rcases h3 with h0 | ⟨b, off, rfl, hblt, hcl⟩
      · omega
      have hkn : (k : Int) < (n : Int) := by omega
      have hbr : b < wr.heap.size := Nat.lt_of_lt_of_le hblt hB.size
      have ne := Ext.there wr
      have hck := (hcl k hlt).below hB hblt
      have s0 : ∀ u : Ext wr, u.1.cell? ⟨b, off + k * 5, none⟩ = some (.int .i64 (f k).c) := fun u => (u.cell hbr).trans hck.1
      have s1 : ∀ u : Ext wr, u.1.cell? ⟨b, off + k * 5 + 1, none⟩ = some (.int .i64 (f k).m.x) := fun u => (u.cell hbr).trans hck.2.1
      have s2 : ∀ u : Ext wr, u.1.cell? ⟨b, off + k * 5 + 2, none⟩ = some (.int .i64 (f k).m.y) := fun u => (u.cell hbr).trans hck.2.2.1
      obtain ⟨mx1, mx2, my1, my2, _, _, _, _⟩ := M.ok_iff.1 (HM.out k hlt)
      obtain ⟨c1, c2⟩ := HC.out k hlt
      have hpx : fPow x (f k).m.x = pw x (f k).m.x.toNat := fPow_in x0 x1 mx1 (by omega)
      have hpy : fPow y (f k).m.y = pw y (f k).m.y.toNat := fPow_in y0 y1 my1 (by omega)
      obtain ⟨p1, p2⟩ := pw_bd x (f k).m.x.toNat
      obtain ⟨q1, q2⟩ := pw_bd y (f k).m.y.toNat
      obtain ⟨t1, t2⟩ := atT_bd f x y k
      have HE : Hid (atT f x y (k + 1) = (atT f x y k + ((f k).c * pw x (f k).m.x.toNat % 101) * pw y (f k).m.y.toNat) % 101) := (at_mod1 _ _ _ _).symm
      generalize atT f x y k = tk at t1 t2 HE ⊢
      generalize pw x (f k).m.x.toNat = px at hpx p1 p2 HE
      generalize pw y (f k).m.y.toNat = py at hpy q1 q2 HE
      obtain ⟨g1, g2⟩ := mul_lt c1 c2 p1 p2
      have g3 : 0 ≤ (f k).c * px % 101 := by omega
      have g4 : (f k).c * px % 101 ≤ 100 := by omega
      obtain ⟨g5, g6⟩ := mul_lt g3 g4 q1 q2
      have d1 : ((f k).c * px).tmod 101 = (f k).c * px % 101 := Int.tmod_eq_emod_of_nonneg g1
      have d2 : (tk + (f k).c * px % 101 * py).tmod 101 = (tk + (f k).c * px % 101 * py) % 101 := Int.tmod_eq_emod_of_nonneg (by omega)
      clear hck hcl
      go_wp2_with fail
      refine wp_region_ext (by kernel_rfl) (by kernel_rfl) ?_
      repeat (go_big_quiet_step (first | (go_at_call 57; refine ext_same (powS _ _ _)) | fail))
      refine wpQuiet_nil ?_
      rintro _ ⟨u, rfl⟩
      go_wp2
      go_roundw
      case rel => exact ⟨k + 1, by omega, by go_num, by rw [HE.out], hB.trans (u.2.mono hB.size)⟩
      case measure => simp [intOf]; omega
    · have hkn : k = n := by omega
      subst hkn
      go_wp2
      go_ret
      exact ⟨rfl, hB⟩
set_option maxRecDepth 100000 in
set_option maxHeartbeats 4000000 in
theorem actAtI (w : World) (a : Option Addr) (n cap : Nat) (f : Nat → T) (x y : Int) (h : Rd w a n cap f) :
    Calls Try.prog 25 #[.slice a n cap, .int .i64 x, .int .i64 y] w fun r w' => r = .returned (.int .i64 (actAt n f x y)) ∧ Below w.heap.size w w' := by
  have HR := Hid.mk' h
  cases hp : polFree n f
  · have e1 : actAt n f x y = 0 := by simp [actAt, hp]
    rw [e1]
    clear h e1
    go_enter Try.func25, Try.ntmps25
    go_wp2_with fail
    refine (polFreeI _ _ _ _ f HR.out).mono ?_
    rw [hp]
    rintro r w1 ⟨rfl, hb⟩
    go_wp2
    go_ret
    exact ⟨rfl, hb⟩
  cases hx : okB x
  · have e1 : actAt n f x y = 0 := by simp [actAt, hx]
    rw [e1]
    clear h e1
    go_enter Try.func25, Try.ntmps25
    go_wp2_with fail
    refine (polFreeI _ _ _ _ f HR.out).mono ?_
    rw [hp]
    rintro r w1 ⟨rfl, hb⟩
    go_wp2_with (go_at_call 28; refine (okI _ _).mono ?_; rintro r w2 ⟨rfl, hw⟩; obtain rfl := hw.symm; clear hw)
    go_ret
    exact ⟨rfl, hb⟩
  cases hy : okB y
  · have e1 : actAt n f x y = 0 := by simp [actAt, hy]
    rw [e1]
    clear h e1
    go_enter Try.func25, Try.ntmps25
    go_wp2_with fail
    refine (polFreeI _ _ _ _ f HR.out).mono ?_
    rw [hp]
    rintro r w1 ⟨rfl, hb⟩
    go_wp2_with (go_at_call 28; refine (okI _ _).mono ?_; rintro r w2 ⟨rfl, hw⟩; obtain rfl := hw.symm; clear hw)
    go_ret
    exact ⟨rfl, hb⟩
  have e1 : actAt n f x y = atT f x y n := by simp [actAt, hp, hx, hy]
  rw [e1]
  obtain ⟨x0, x1⟩ := okB_in hx
  obtain ⟨y0, y1⟩ := okB_in hy
  have HM := Hid.mk' (polOk_m (polFree_ok hp))
  obtain ⟨hl, hc⟩ := polOk_c (polFree_ok hp)
  have HC := Hid.mk' hc
  obtain ⟨h1, h2, h3⟩ := h
  have hn : (n : Int) ≤ 400 := by omega
  clear e1 hc
  go_enter Try.func25, Try.ntmps25
  go_wp2_with fail
  refine (polFreeI _ _ _ _ f HR.out).mono ?_
  rw [hp]
  rintro r w1 ⟨rfl, hb⟩
  have HB1 := Hid.mk' hb
  clear hb hp
  go_wp2_with (go_at_call 28; refine (okI _ _).mono ?_; rintro r w2 ⟨rfl, hw⟩; obtain rfl := hw.symm; clear hw)
  go_loopw [7, 26] (fun s i wr => ∃ k : Nat, k ≤ n ∧ i = .int .i64 k ∧ s = .int .i64 (atT f x y k) ∧ Below w.heap.size w wr) (fun _ i _ => n - (intOf i).toNat)
  case atStart => exact ⟨0, Nat.zero_le _, rfl, rfl, HB1.out⟩
  case round =>
    obtain ⟨k, hk, rfl, rfl, hB⟩ := hrel
    by_cases hlt : k < n
    · rcases h3 with h0 | ⟨b, off, rfl, hblt, hcl⟩
      · omega
      have hkn : (k : Int) < (n : Int) := by omega
      obtain ⟨g0, g1, g2, g3, g4⟩ := (hcl k hlt).below hB hblt
      obtain ⟨mx1, mx2, my1, my2, _, _, _, _⟩ := M.ok_iff.1 (HM.out k hlt)
      obtain ⟨c1, c2⟩ := HC.out k hlt
      obtain ⟨p1, p2⟩ := pw_bd x (f k).m.x.toNat
      obtain ⟨q1, q2⟩ := pw_bd y (f k).m.y.toNat
      obtain ⟨t1, t2⟩ := atT_bd f x y k
      have HE : Hid (atT f x y (k + 1) = (atT f x y k + (pw x (f k).m.x.toNat * pw y (f k).m.y.toNat % 101) * (f k).c % 101) % 101) := (at_mod2 _ _ _ _).symm
      clear hcl
      go_wp2_with fail
      have HBQ := Hid.mk' (hB.alloc hB.size (.cells #[.int .i64 (f k).c, .int .i64 (f k).m.x, .int .i64 (f k).m.y, .int .i64 (f k).m.d, .int .i64 (f k).m.e] 36))
      have q : ∀ i v, #[Value.int .i64 (f k).c, .int .i64 (f k).m.x, .int .i64 (f k).m.y, .int .i64 (f k).m.d, .int .i64 (f k).m.e][i]? = some v → (wr.alloc (.cells #[.int .i64 (f k).c, .int .i64 (f k).m.x, .int .i64 (f k).m.y, .int .i64 (f k).m.d, .int .i64 (f k).m.e] 36)).cell? ⟨wr.heap.size, i, none⟩ = some v := fun i v hv => by
        rw [World.cell?_alloc_at _ _ _ _ rfl]; exact hv
      have hsz : wr.heap.size < (wr.alloc (.cells #[.int .i64 (f k).c, .int .i64 (f k).m.x, .int .i64 (f k).m.y, .int .i64 (f k).m.d, .int .i64 (f k).m.e] 36)).heap.size := by simp
      generalize (wr.alloc (.cells #[.int .i64 (f k).c, .int .i64 (f k).m.x, .int .i64 (f k).m.y, .int .i64 (f k).m.d, .int .i64 (f k).m.e] 36)) = wq at HBQ q hsz ⊢
      have ne := Ext.there wq
      have s0 : ∀ u : Ext wq, u.1.cell? ⟨wr.heap.size, 0, none⟩ = some (.int .i64 (f k).c) := fun u => (u.cell hsz).trans (q 0 _ rfl)
      have s1 : ∀ u : Ext wq, u.1.cell? ⟨wr.heap.size, 1, none⟩ = some (.int .i64 (f k).m.x) := fun u => (u.cell hsz).trans (q 1 _ rfl)
      have s2 : ∀ u : Ext wq, u.1.cell? ⟨wr.heap.size, 2, none⟩ = some (.int .i64 (f k).m.y) := fun u => (u.cell hsz).trans (q 2 _ rfl)
      clear g0 g1 g2 g3 g4 q
      refine wp_region_ext (by kernel_rfl) (by kernel_rfl) ?_
      repeat (go_big_quiet_step (first | (go_at_call_of 54 (Value.int IntKind.i64 (f k).m.x); refine ext_same (power _ _ _ x0 x1 mx1 (by omega))) | (go_at_call_of 54 (Value.int IntKind.i64 (f k).m.y); refine ext_same (power _ _ _ y0 y1 my1 (by omega))) | (go_at_call 55; refine ext_same (times _ _ _ p1 p2 q1 q2)) | fail))
      refine wpQuiet_nil ?_
      rintro _ ⟨u, rfl⟩
      have v0 := s0 u
      have hu := Hid.mk' (bel_next HBQ.out u.2)
      generalize pw x (f k).m.x.toNat = px at p1 p2 HE ⊢
      generalize pw y (f k).m.y.toNat = py at q1 q2 HE ⊢
      have r1 : 0 ≤ px * py % 101 := by omega
      have r2 : px * py % 101 ≤ 100 := by omega
      generalize px * py % 101 = pp at r1 r2 HE ⊢
      have r3 : 0 ≤ pp * (f k).c % 101 := by omega
      have r4 : pp * (f k).c % 101 ≤ 100 := by omega
      clear s0 s1 s2 ne
      generalize u.1 = wu at v0 hu ⊢
      go_wp2_with fail
      refine (times _ _ _ r1 r2 c1 c2).mono ?_
      rintro r w2 ⟨rfl, hw⟩
      obtain rfl := hw.symm
      clear hw
      go_wp2_with fail
      refine (plus _ _ _ t1 t2 r3 r4).mono ?_
      rintro r w3 ⟨rfl, hw⟩
      obtain rfl := hw.symm
      clear hw v0
      go_wp2
      go_roundw
      case rel => exact ⟨k + 1, by omega, by go_num, by rw [HE.out]; simp, hu.out⟩
      case measure => simp [intOf]; omega
    · have hkn : k = n := by omega
      subst hkn
      go_wp2
      go_ret
      exact ⟨rfl, hB⟩
end Go.Proofs.Ytnfimnfaejjagaa
