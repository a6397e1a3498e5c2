/-
  A draw of an operator and how often it is taken; powers as lists.
-/
import Derived.Test.YtbadbmddocifdaaGaz
namespace Go.Proofs.Ytbadbmddocifdaa
open Go.RowKit
set_option linter.unusedVariables false

theorem out_rl {lo : Nat} {w : World} {a : Option Addr} {c : Nat} {L : List T} (h : Out lo w a c L) : RL w a c L := h.1
theorem out_off {lo B : Nat} {w : World} {a : Option Addr} {c : Nat} {L : List T} (h : Out lo w a c L) (hB : B < lo) : L.length = 0 ∨ ∀ b off, a = some ⟨b, off, none⟩ → b ≠ B := off_of h.2.2 hB
theorem rl_beside {w w' : World} {a : Option Addr} {c B : Nat} {L : List T} (h : RL w a c L) (hb : Beside B w w') (hne : L.length = 0 ∨ ∀ b off, a = some ⟨b, off, none⟩ → b ≠ B) : RL w' a c L := Rd.beside h hb hne
theorem rl_alloc {w : World} {a : Option Addr} {c : Nat} {L : List T} (h : RL w a c L) (o : Obj) : RL (w.alloc o) a c L := RL.below h (bel_one w o)
theorem lit8p (a b c d e f g h u : Int) (u0 : 0 ≤ u) (u1 : u < 8) : #[Value.int .i64 a, .int .i64 b, .int .i64 c, .int .i64 d, .int .i64 e, .int .i64 f, .int .i64 g, .int .i64 h][u.toNat]? = some (.int .i64 ([a, b, c, d, e, f, g, h].getD u.toNat 0)) := by
  have hu : u = 0 ∨ u = 1 ∨ u = 2 ∨ u = 3 ∨ u = 4 ∨ u = 5 ∨ u = 6 ∨ u = 7 := by omega
  rcases hu with rfl | rfl | rfl | rfl | rfl | rfl | rfl | rfl <;> rfl
theorem lst8p (a b c d e f g h u : Int) (u0 : 0 ≤ u) (u1 : u < 8) (hl : u.toNat < [Value.int .i64 a, .int .i64 b, .int .i64 c, .int .i64 d, .int .i64 e, .int .i64 f, .int .i64 g, .int .i64 h].length) : [Value.int .i64 a, .int .i64 b, .int .i64 c, .int .i64 d, .int .i64 e, .int .i64 f, .int .i64 g, .int .i64 h][u.toNat]'hl = .int .i64 ([a, b, c, d, e, f, g, h].getD u.toNat 0) := by
  have hu : u = 0 ∨ u = 1 ∨ u = 2 ∨ u = 3 ∨ u = 4 ∨ u = 5 ∨ u = 6 ∨ u = 7 := by omega
  rcases hu with rfl | rfl | rfl | rfl | rfl | rfl | rfl | rfl <;> rfl
set_option maxRecDepth 100000 in
set_option maxHeartbeats 4000000 in
theorem drawWylPow (w : World) (a : Option Addr) (len cap : Nat) (h : Src w a len cap) :
    Calls Try.prog 17 #[.slice a len cap] w fun e w' => ∃ (a1 : Option Addr) (c1 : Nat) (A : List T) (y : Int), e = .returned (.tuple #[.slice a1 A.length c1, .int .i64 y]) ∧ RL w' a1 c1 A ∧ A.length ≤ 5 ∧ Below w.heap.size w w' := by
  go_enter Try.func17, Try.ntmps17
  go_wp2_with fail
  refine (open_any _ _ _ _ h).mono ?_
  rintro e w1 ⟨rfl, r1, b1⟩
  clear h
  go_wp2_with fail
  refine (pick_any w1 _ _ 12 r1 (by omega) (by omega) (by omega)).mono ?_
  rintro e w2 ⟨x, rfl, x0, x1, k2⟩
  have r2 : Rdr w2 w.heap.size 1 := k2.rdr r1
  have b2 := k2.beside.below b1 (Nat.le_refl _) b1.size
  have lt2 := r2.lt
  clear k2 r1 b1
  by_cases hx : x = 0
  · subst hx
    go_wp2_with fail
    refine (any_any w2 _ _ 1 r2 (by omega) (by omega) (by omega)).mono ?_
    rintro e w3 ⟨pa, m, pc, f, q, rfl, hrd, hm, hblk, hq, r3, s3⟩
    have b3 := s3.below b2 (Nat.le_refl _) b2.size
    have hne := off_of hblk lt2
    clear s3 hblk r2 b2
    go_wp2_with fail
    refine (pick_any w3 _ _ 4 r3 (by omega) (by omega) (by omega)).mono ?_
    rintro e w4 ⟨j, rfl, j0, j1, k4⟩
    have b4 := k4.beside.below b3 (Nat.le_refl _) b3.size
    obtain ⟨A, hA0, hA⟩ := list_of (hrd.beside k4.beside hne)
    subst hA0
    have H := Hid.mk' (And.intro hA b4)
    clear k4 b3 r3 hrd hA b4 hne
    go_wp2
    go_ret2
    exact ⟨_, _, A, _, rfl, H.out.1, hm, H.out.2⟩
  · have hxb : (x == 0) = false := by simp [hx]
    clear hx
    go_wp2_with fail
    have r2d : Rdr w2.drew w.heap.size 1 := r2.drewN 1
    have b2d : Below w.heap.size w w2.drew := b2.drew
    have lt2d : w.heap.size < w2.drew.heap.size := lt2
    have r2a : ∀ o, Rdr (World.drew (World.alloc w2 o)) w.heap.size 1 := fun o => (r2.alloc o).drewN 1
    have b2a : ∀ o, Below w.heap.size w (World.drew (World.alloc w2 o)) := fun o => (Below.alloc b2 b2.size o).drew
    have c2a : ∀ t (u : Int), 0 ≤ u → u < 8 → ∃ x, (World.drew (World.alloc w2 (.cells #[.int .i64 0, .int .i64 1, .int .i64 2, .int .i64 3, .int .i64 4, .int .i64 8, .int .i64 9, .int .i64 (-1)] t))).cell? ⟨w2.heap.size, u.toNat, none⟩ = some (.int .i64 x) := fun t u u0 u1 => ⟨_, by show (World.alloc w2 _).cell? _ = _; rw [World.cell?_alloc_at _ _ _ _ rfl]; exact lit8p 0 1 2 3 4 8 9 (-1) u u0 u1⟩
    have z2a : ∀ o, w2.heap.size < (World.drew (World.alloc w2 o)).heap.size := fun o => by simp
    go_region_with (first
      | (go_at_call 39; with_reducible show Calls _ _ _ w2.drew _; refine (pol_any w2.drew w.heap.size 1 2 r2d (by omega) (by omega) (by omega)).mono ?_; rintro e w3 ⟨v3, L3, q3, rfl, ho3, hl3, hc3, hq3, r3, s3⟩; have b3 := s3.below b2d (Nat.le_refl _) b2d.size; have lt3 := r3.lt; obtain ⟨a3, c3, hv3, hout3⟩ := out_of_owns ho3 (by omega); subst hv3; have OO := Hid.mk' (And.intro (out_rl hout3) (out_off hout3 lt2d)); clear ho3 hout3 hc3 s3)
      | (go_at_call 39; with_reducible show Calls _ _ _ (World.drew (World.alloc w2 _)) _; refine (pol_any (World.drew (World.alloc w2 _)) w.heap.size 1 2 (r2a _) (by omega) (by omega) (by omega)).mono ?_; rintro e w3 ⟨v3, L3, q3, rfl, ho3, hl3, hc3, hq3, r3, s3⟩; have b3 := s3.below (b2a _) (Nat.le_refl _) (b2a _).size; have lt3 := r3.lt; have ha : ∀ u : Int, 0 ≤ u → u < 8 → ∃ x, w3.cell? ⟨w2.heap.size, u.toNat, none⟩ = some (.int .i64 x) := (fun u u0 u1 => (c2a _ u u0 u1).imp fun x hx => (s3.cell (z2a _) (by omega)).trans hx); have hlt3 : w2.heap.size < w3.heap.size := Nat.lt_of_lt_of_le (z2a _) s3.size; obtain ⟨a3, c3, hv3, hout3⟩ := out_of_owns ho3 (by omega); subst hv3; have OO := Hid.mk' (And.intro (out_rl hout3) (out_off hout3 (Nat.lt_trans lt2 (z2a _)))); clear ho3 hout3 hc3 s3)
      | (go_at_call 29; with_reducible show Calls _ _ _ w3 _; refine (pick_any w3 w.heap.size q3 8 r3 (by omega) (by omega) (by omega)).mono ?_; rintro e w4 ⟨u, rfl, u0, u1, k4⟩; obtain ⟨x4, hx4⟩ := ha u u0 u1; have hx5 : w4.cell? ⟨w2.heap.size, u.toNat, none⟩ = some (.int .i64 x4) := (k4.beside.cell hlt3 (by omega)).trans hx4; have b4 := k4.beside.below b3 (Nat.le_refl _) b3.size; have R4 := Hid.mk' (rl_beside OO.out.1 k4.beside OO.out.2); clear k4 ha hx4)
      | (go_at_call 29; with_reducible show Calls _ _ _ w3 _; refine (pick_any w3 w.heap.size q3 8 r3 (by omega) (by omega) (by omega)).mono ?_; rintro e w4 ⟨u, rfl, u0, u1, k4⟩; have b4 := k4.beside.below b3 (Nat.le_refl _) b3.size; have R4 := Hid.mk' (rl_beside OO.out.1 k4.beside OO.out.2); have l8 := lst8p 0 1 2 3 4 8 9 (-1) u u0 u1; obtain ⟨g8, hg8⟩ : ∃ g : Int, g = [0, 1, 2, 3, 4, 8, 9, -1].getD u.toNat 0 := ⟨_, rfl⟩; simp only [← hg8] at l8; clear hg8 k4)
      | (go_at_call 29; with_reducible show Calls _ _ _ (World.alloc w3 _) _; refine (pick_any (w3.alloc _) w.heap.size q3 8 (Rdr.alloc r3 _) (by omega) (by omega) (by omega)).mono ?_; rintro e w4 ⟨u, rfl, u0, u1, k4⟩; have b4 := k4.beside.below (Below.alloc b3 b3.size _) (Nat.le_refl _) (by have := b3.size; simp; omega); have R4 := Hid.mk' (rl_beside (rl_alloc OO.out.1 _) k4.beside OO.out.2); have hx : ∃ x, w4.cell? ⟨w3.heap.size, u.toNat, none⟩ = some (.int .i64 x) := ⟨_, by rw [k4.beside.cell (by simp) (by omega)]; refine (World.cell?_alloc_at _ _ _ _ rfl).trans ?_; exact lit8p _ _ _ _ _ _ _ _ _ u0 u1⟩; obtain ⟨x4, hx4⟩ := hx; clear k4))
    all_goals
      go_wp2
      go_ret2
      first
        | exact ⟨_, _, L3, _, rfl, R4.out, by omega, b4⟩
        | exact ⟨_, _, L3, _, rfl, rl_alloc R4.out _, by omega, b4.alloc b4.size _⟩
theorem heOne_L2 (u : World) : Calls Try.prog 20 #[] u (One1 u [⟨1, ⟨0, 0, 0, 0⟩⟩]) := by
  go_enter Try.func20, Try.ntmps20
  go_wp2
  go_ret
  exact ⟨_, _, rfl, bel_one u _, one_RL u ⟨1, ⟨0, 0, 0, 0⟩⟩⟩
def wpV (L : List T) (n : Int) : List T × Bool := wylPow (lf L) L.length n
section
variable {w : World} {a : Option Addr} {ca : Nat} {L : List T}
theorem wpI_L (n : Int) (ha : RL w a ca L) : Calls Try.prog 18 #[.slice a L.length ca, .int .i64 n] w (Two2 w (wpV L n)) :=
  (wylPowI w a L.length ca (lf L) n ha).mono fun _ _ h => two_out h
theorem wpS_L (n : Int) (ha : RL w a ca L) : Calls Try.prog 19 #[.slice a L.length ca, .int .i64 n] w (Two2 w (wpV L n)) :=
  (wylPowS w a L.length ca (lf L) n ha).mono fun _ _ h => two_owns (wylPow_len _ _ _) h
end
theorem wpV_if (L : List T) (n : Int) : wpV L n = ([], false) ∨ ∃ X, wpV L n = (X, true) := by
  unfold wpV wylPow
  split
  · cases powM (lf L) L.length n.toNat with
    | none => exact .inl rfl
    | some K => exact .inr ⟨K, rfl⟩
  · exact .inl rfl
theorem powM_Rp (g : Gen) {L : List T} (hL : okL L = true) : ∀ n K, powM (lf L) L.length n = some K → okL K = true ∧ Rp g K = Lq.pow (Rp g L) n
  | 0, K, h => by
    cases h
    refine ⟨by decide, ?_⟩
    rw [Rp_one]
    show Lq.sc (zz 1) (mo g ⟨0, 0, 0, 0⟩) = Lq.one
    rw [zz_one, Lq.sc_one]; rfl
  | n + 1, K, h => by
    rw [powM] at h
    cases hr : powM (lf L) L.length n with
    | none => rw [hr] at h; cases h
    | some K1 =>
      rw [hr] at h
      change mulM (lf K1) (lf L) L.length K1.length = some K at h
      have h1 := powM_Rp g hL n K1 hr
      have hw : wmV K1 L = (K, true) := by
        unfold wmV wylMul
        rw [if_pos ⟨h1.1, hL⟩, h]; rfl
      exact ⟨wm_ok hw, by rw [Rp_mul g hw, h1.2]; rfl⟩
theorem wp_facts {L X : List T} {n : Int} (h : wpV L n = (X, true)) : okL L = true ∧ 0 ≤ n ∧ n ≤ 8 ∧ okL X = true ∧ ∀ g, Rp g X = Lq.pow (Rp g L) n.toNat := by
  unfold wpV wylPow at h
  split at h
  · rename_i hh
    cases hm : powM (lf L) L.length n.toNat with
    | none => rw [hm] at h; simp [mulO] at h
    | some K =>
      rw [hm] at h
      have e : K = X := by simpa [mulO] using h
      rw [← e]
      exact ⟨hh.1, hh.2.1, hh.2.2, (powM_Rp stdG hh.1 _ K hm).1, fun g => (powM_Rp g hh.1 _ K hm).2⟩
  · simp at h
theorem wp_add {L X Y Z U : List T} {n m : Int} (h1 : wpV L n = (X, true)) (h2 : wpV L m = (Y, true)) (h3 : wpV L (n + m) = (Z, true)) (h4 : wmV X Y = (U, true)) : U = Z := by
  obtain ⟨_, n0, _, oX, eX⟩ := wp_facts h1
  obtain ⟨_, m0, _, oY, eY⟩ := wp_facts h2
  obtain ⟨_, _, _, oZ, eZ⟩ := wp_facts h3
  refine eq_of_Rp (wm_falls h4) (okL_falls oZ).2 ?_
  rw [Rp_mul _ h4, eX, eY, eZ, show (n + m).toNat = n.toNat + m.toNat by omega, Lq.pow_add]
theorem wp_zero {L : List T} (h : okL L = true) : wpV L 0 = ([⟨1, ⟨0, 0, 0, 0⟩⟩], true) := by
  unfold wpV wylPow
  rw [if_pos ⟨h, by omega, by omega⟩]; rfl
end Go.Proofs.Ytbadbmddocifdaa
