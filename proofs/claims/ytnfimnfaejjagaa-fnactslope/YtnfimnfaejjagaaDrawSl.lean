/-
  A draw of a form and by which slope.
-/
import Derived.Test.YtnfimnfaejjagaaGbb
import Derived.Test.YtnfimnfaejjagaaGbc
namespace Go.Proofs.Ytnfimnfaejjagaa
open Go.RowKit
set_option linter.unusedVariables false

theorem out_rl {lo : Nat} {w : World} {a : Option Addr} {c : Nat} {L : List T} (h : Out lo w a c L) : RL w a c L := h.1
theorem out_off {lo B : Nat} {w : World} {a : Option Addr} {c : Nat} {L : List T} (h : Out lo w a c L) (hB : B < lo) : L.length = 0 ∨ ∀ b off, a = some ⟨b, off, none⟩ → b ≠ B := off_of h.2.2 hB
theorem rl_beside {w w' : World} {a : Option Addr} {c B : Nat} {L : List T} (h : RL w a c L) (hb : Beside B w w') (hne : L.length = 0 ∨ ∀ b off, a = some ⟨b, off, none⟩ → b ≠ B) : RL w' a c L := Rd.beside h hb hne
theorem rl_alloc {w : World} {a : Option Addr} {c : Nat} {L : List T} (h : RL w a c L) (o : Obj) : RL (w.alloc o) a c L := RL.below h (bel_one w o)
theorem lit6p (a b c d e f u : Int) (u0 : 0 ≤ u) (u1 : u < 6) : #[Value.int .i64 a, .int .i64 b, .int .i64 c, .int .i64 d, .int .i64 e, .int .i64 f][u.toNat]? = some (.int .i64 ([a, b, c, d, e, f].getD u.toNat 0)) := by
  have hu : u = 0 ∨ u = 1 ∨ u = 2 ∨ u = 3 ∨ u = 4 ∨ u = 5 := by omega
  rcases hu with rfl | rfl | rfl | rfl | rfl | rfl <;> rfl
theorem lst6p (a b c d e f u : Int) (u0 : 0 ≤ u) (u1 : u < 6) (hl : u.toNat < [Value.int .i64 a, .int .i64 b, .int .i64 c, .int .i64 d, .int .i64 e, .int .i64 f].length) : [Value.int .i64 a, .int .i64 b, .int .i64 c, .int .i64 d, .int .i64 e, .int .i64 f][u.toNat] = .int .i64 ([a, b, c, d, e, f].getD u.toNat 0) := by
  have hu : u = 0 ∨ u = 1 ∨ u = 2 ∨ u = 3 ∨ u = 4 ∨ u = 5 := by omega
  rcases hu with rfl | rfl | rfl | rfl | rfl | rfl <;> rfl
set_option maxRecDepth 100000 in
set_option maxHeartbeats 4000000 in
theorem drawActSlope (w : World) (a : Option Addr) (len cap : Nat) (h : Src w a len cap) :
    Calls Try.prog 20 #[.slice a len cap] w fun e w' => ∃ (a1 : Option Addr) (c1 : Nat) (A : List T) (y : Int), e = .returned (.tuple #[.slice a1 A.length c1, .int .i64 y]) ∧ RL w' a1 c1 A ∧ A.length ≤ 5 ∧ Below w.heap.size w w' := by
  go_enter Try.func20, Try.ntmps20
  go_wp2_with fail
  refine (open_any _ _ _ _ h).mono ?_
  rintro e w1 ⟨rfl, r1, b1⟩
  clear h
  go_wp2_with fail
  refine (pick_any w1 _ _ 12 r1 (by omega) (by omega) (by omega)).mono ?_
  rintro e w2 ⟨x, rfl, x0, x1, k2⟩
  have r2 : Rdr w2 w.heap.size 1 := k2.rdr r1
  have b2 := k2.beside.below b1 (Nat.le_refl _) b1.size
  have lt2 := r2.lt
  clear k2 r1 b1
  by_cases hx : x = 0
  · subst hx
    go_wp2_with fail
    refine (any_any w2 _ _ 2 r2 (by omega) (by omega) (by omega)).mono ?_
    rintro e w3 ⟨pa, m, pc, f, q, rfl, hrd, hm, hblk, hq, r3, s3⟩
    have b3 := s3.below b2 (Nat.le_refl _) b2.size
    have hne := off_of hblk lt2
    clear s3 hblk r2 b2
    go_wp2_with fail
    refine (pick_any w3 _ _ 2 r3 (by omega) (by omega) (by omega)).mono ?_
    rintro e w4 ⟨j, rfl, j0, j1, k4⟩
    have b4 := k4.beside.below b3 (Nat.le_refl _) b3.size
    obtain ⟨A, hA0, hA⟩ := list_of (hrd.beside k4.beside hne)
    subst hA0
    have H := Hid.mk' (And.intro hA b4)
    clear k4 b3 r3 hrd hA b4 hne
    go_wp2
    go_ret2
    exact ⟨_, _, A, _, rfl, H.out.1, hm, H.out.2⟩
  · have hxb : (x == 0) = false := by simp [hx]
    clear hx
    go_wp2_with fail
    have r2d : Rdr w2.drew w.heap.size 1 := r2.drewN 1
    have b2d : Below w.heap.size w w2.drew := b2.drew
    have lt2d : w.heap.size < w2.drew.heap.size := lt2
    have r2a : ∀ o, Rdr (World.drew (World.alloc w2 o)) w.heap.size 1 := fun o => (r2.alloc o).drewN 1
    have b2a : ∀ o, Below w.heap.size w (World.drew (World.alloc w2 o)) := fun o => (Below.alloc b2 b2.size o).drew
    have c2a : ∀ t (u : Int), 0 ≤ u → u < 6 → ∃ x, (World.drew (World.alloc w2 (.cells #[.int .i64 0, .int .i64 1, .int .i64 0, .int .i64 1, .int .i64 2, .int .i64 (-1)] t))).cell? ⟨w2.heap.size, u.toNat, none⟩ = some (.int .i64 x) := fun t u u0 u1 => ⟨_, by show (World.alloc w2 _).cell? _ = _; rw [World.cell?_alloc_at _ _ _ _ rfl]; exact lit6p 0 1 0 1 2 (-1) u u0 u1⟩
    have z2a : ∀ o, w2.heap.size < (World.drew (World.alloc w2 o)).heap.size := fun o => by simp
    go_region_with (first
      | (go_at_call 37; with_reducible show Calls _ _ _ w2.drew _; refine (form_any w2.drew w.heap.size 1 4 r2d (by omega) (by omega) (by omega)).mono ?_; rintro e w3 ⟨v3, L3, q3, rfl, ho3, hl3, hq3, r3, s3⟩; have b3 := s3.below b2d (Nat.le_refl _) b2d.size; have lt3 := r3.lt; obtain ⟨a3, c3, hv3, hout3⟩ := out_of_owns ho3 (by omega); subst hv3; have OO := Hid.mk' (And.intro (out_rl hout3) (out_off hout3 lt2d)); clear ho3 hout3 s3)
      | (go_at_call 37; with_reducible show Calls _ _ _ (World.drew (World.alloc w2 _)) _; refine (form_any (World.drew (World.alloc w2 _)) w.heap.size 1 4 (r2a _) (by omega) (by omega) (by omega)).mono ?_; rintro e w3 ⟨v3, L3, q3, rfl, ho3, hl3, hq3, r3, s3⟩; have b3 := s3.below (b2a _) (Nat.le_refl _) (b2a _).size; have lt3 := r3.lt; have ha : ∀ u : Int, 0 ≤ u → u < 6 → ∃ x, w3.cell? ⟨w2.heap.size, u.toNat, none⟩ = some (.int .i64 x) := (fun u u0 u1 => (c2a _ u u0 u1).imp fun x hx => (s3.cell (z2a _) (by omega)).trans hx); have hlt3 : w2.heap.size < w3.heap.size := Nat.lt_of_lt_of_le (z2a _) s3.size; obtain ⟨a3, c3, hv3, hout3⟩ := out_of_owns ho3 (by omega); subst hv3; have OO := Hid.mk' (And.intro (out_rl hout3) (out_off hout3 (Nat.lt_trans lt2 (z2a _)))); clear ho3 hout3 s3)
      | (go_at_call 34; with_reducible show Calls _ _ _ w3 _; refine (pick_any w3 w.heap.size q3 6 r3 (by omega) (by omega) (by omega)).mono ?_; rintro e w4 ⟨u, rfl, u0, u1, k4⟩; obtain ⟨x4, hx4⟩ := ha u u0 u1; have hx5 : w4.cell? ⟨w2.heap.size, u.toNat, none⟩ = some (.int .i64 x4) := (k4.beside.cell hlt3 (by omega)).trans hx4; have b4 := k4.beside.below b3 (Nat.le_refl _) b3.size; have R4 := Hid.mk' (rl_beside OO.out.1 k4.beside OO.out.2); clear k4 ha hx4)
      | (go_at_call 34; with_reducible show Calls _ _ _ w3 _; refine (pick_any w3 w.heap.size q3 6 r3 (by omega) (by omega) (by omega)).mono ?_; rintro e w4 ⟨u, rfl, u0, u1, k4⟩; have b4 := k4.beside.below b3 (Nat.le_refl _) b3.size; have R4 := Hid.mk' (rl_beside OO.out.1 k4.beside OO.out.2); have l6 := lst6p 0 1 0 1 2 (-1) u u0 u1; obtain ⟨g6, hg6⟩ : ∃ g : Int, g = [0, 1, 0, 1, 2, -1].getD u.toNat 0 := ⟨_, rfl⟩; simp only [← hg6] at l6; clear hg6 k4)
      | (go_at_call 34; with_reducible show Calls _ _ _ (World.alloc w3 _) _; refine (pick_any (w3.alloc _) w.heap.size q3 6 (Rdr.alloc r3 _) (by omega) (by omega) (by omega)).mono ?_; rintro e w4 ⟨u, rfl, u0, u1, k4⟩; have b4 := k4.beside.below (Below.alloc b3 b3.size _) (Nat.le_refl _) (by have := b3.size; simp; omega); have R4 := Hid.mk' (rl_beside (rl_alloc OO.out.1 _) k4.beside OO.out.2); have hx : ∃ x, w4.cell? ⟨w3.heap.size, u.toNat, none⟩ = some (.int .i64 x) := ⟨_, by rw [k4.beside.cell (by simp) (by omega)]; refine (World.cell?_alloc_at _ _ _ _ rfl).trans ?_; exact lit6p _ _ _ _ _ _ _ u0 u1⟩; obtain ⟨x4, hx4⟩ := hx; clear k4))
    all_goals
      go_wp2
      go_ret2
      first
        | exact ⟨_, _, L3, _, rfl, R4.out, by omega, b4⟩
        | exact ⟨_, _, L3, _, rfl, rl_alloc R4.out _, by omega, b4.alloc b4.size _⟩
end Go.Proofs.Ytnfimnfaejjagaa
