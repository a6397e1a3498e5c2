/-
  Products of two powers, and the draw of a power.
-/
import Derived.Test.YtbdbdmblhlclaaaGap
import Derived.Test.YtbdbdmblhlclaaaGas
import Derived.Test.YtbdbdmblhlclaaaGat
import Derived.Test.YtbdbdmblhlclaaaGaw
namespace Go.Proofs.Ytbdbdmblhlclaaa
open Go.RowKit
set_option linter.unusedVariables false

def wmV (L K : List T) : List T × Bool := wylMul (lf L) L.length (lf K) K.length
section
variable {w : World} {a b : Option Addr} {ca cb : Nat} {L K : List T}
theorem wmI_L (ha : RL w a ca L) (hb : RL w b cb K) : Calls Try.prog 5 #[.slice a L.length ca, .slice b K.length cb] w (Two2 w (wmV L K)) :=
  (wylMulI w a b L.length ca K.length cb (lf L) (lf K) ha hb).mono fun _ _ h => two_out h
theorem wmS_L (ha : RL w a ca L) (hb : RL w b cb K) : Calls Try.prog 7 #[.slice a L.length ca, .slice b K.length cb] w (Two2 w (wmV L K)) :=
  (wylMulS w a b L.length ca K.length cb (lf L) (lf K) ha hb).mono fun _ _ h => two_owns (wylMul_len _ _ _ _) h
end
theorem polOf_len1 (c : Int) (m : M) : (polOf c m).length ≤ 1 := by unfold polOf; split <;> simp
theorem polOfI_L (c x y d e : Int) (w : World) : Calls Try.prog 6 #[.int .i64 c, .agg #[.int .i64 x, .int .i64 y, .int .i64 d, .int .i64 e]] w (One1 w (polOf c ⟨x, y, d, e⟩)) :=
  (polOfI c x y d e w).mono fun _ _ h => one_owns (Nat.le_trans (polOf_len1 c ⟨x, y, d, e⟩) (by omega)) h
def sumOf (c x d c' x' d' : Int) : List T := (addV [⟨c, ⟨x, 0, d, 0⟩⟩] [⟨c', ⟨x', 0, d', 0⟩⟩]).1
def pwB (n : Int) : Bool := sq (wmV [⟨1, ⟨0, 0, 1, 0⟩⟩] [⟨1, ⟨n, 0, 0, 0⟩⟩]).1 (sumOf 1 n 1 n (n - 1) 0) && (wmV [⟨1, ⟨0, 0, 1, 0⟩⟩] [⟨1, ⟨n, 0, 0, 0⟩⟩]).2
def pwC (n : Int) : Bool := sq (wmV [⟨1, ⟨0, 0, n, 0⟩⟩] [⟨1, ⟨1, 0, 0, 0⟩⟩]).1 (sumOf 1 1 n n 0 (n - 1)) && (wmV [⟨1, ⟨0, 0, n, 0⟩⟩] [⟨1, ⟨1, 0, 0, 0⟩⟩]).2
def pwD (n : Int) : Bool := sq (polOf 1 ⟨n, 0, 0, 0⟩) [⟨1, ⟨n, 0, 0, 0⟩⟩] && sq (polOf 1 ⟨0, 0, n, 0⟩) [⟨1, ⟨0, 0, n, 0⟩⟩] && sq (polOf 1 ⟨n, 0, 1, 0⟩) [⟨1, ⟨n, 0, 1, 0⟩⟩] && sq (polOf 1 ⟨1, 0, n, 0⟩) [⟨1, ⟨1, 0, n, 0⟩⟩] && sq (polOf n ⟨n - 1, 0, 0, 0⟩) [⟨n, ⟨n - 1, 0, 0, 0⟩⟩] && sq (polOf n ⟨0, 0, n - 1, 0⟩) [⟨n, ⟨0, 0, n - 1, 0⟩⟩]
def pwE (n : Int) : Bool := (addV [⟨1, ⟨n, 0, 1, 0⟩⟩] [⟨n, ⟨n - 1, 0, 0, 0⟩⟩]).2 && (addV [⟨1, ⟨1, 0, n, 0⟩⟩] [⟨n, ⟨0, 0, n - 1, 0⟩⟩]).2
theorem pw_all : ∀ k : Fin 9, (pwB ((k.val : Int) + 1) && pwC ((k.val : Int) + 1) && pwD ((k.val : Int) + 1) && pwE ((k.val : Int) + 1)) = true := by decide +kernel
theorem pw_at {n : Int} (h1 : 1 ≤ n) (h2 : n ≤ 9) : pwB n = true ∧ pwC n = true ∧ pwD n = true ∧ pwE n = true := by
  have h := pw_all ⟨(n - 1).toNat, by omega⟩
  rw [show (((⟨(n - 1).toNat, by omega⟩ : Fin 9).val : Int) + 1) = n from by simp; omega] at h
  simp only [Bool.and_eq_true] at h
  exact ⟨h.1.1.1, h.1.1.2, h.1.2, h.2⟩
theorem pw_facts {n : Int} (h1 : 1 ≤ n) (h2 : n ≤ 9) : wmV [⟨1, ⟨0, 0, 1, 0⟩⟩] [⟨1, ⟨n, 0, 0, 0⟩⟩] = (sumOf 1 n 1 n (n - 1) 0, true) ∧ wmV [⟨1, ⟨0, 0, n, 0⟩⟩] [⟨1, ⟨1, 0, 0, 0⟩⟩] = (sumOf 1 1 n n 0 (n - 1), true)
    ∧ polOf 1 ⟨n, 0, 0, 0⟩ = [⟨1, ⟨n, 0, 0, 0⟩⟩] ∧ polOf 1 ⟨0, 0, n, 0⟩ = [⟨1, ⟨0, 0, n, 0⟩⟩] ∧ polOf 1 ⟨n, 0, 1, 0⟩ = [⟨1, ⟨n, 0, 1, 0⟩⟩] ∧ polOf 1 ⟨1, 0, n, 0⟩ = [⟨1, ⟨1, 0, n, 0⟩⟩] ∧ polOf n ⟨n - 1, 0, 0, 0⟩ = [⟨n, ⟨n - 1, 0, 0, 0⟩⟩] ∧ polOf n ⟨0, 0, n - 1, 0⟩ = [⟨n, ⟨0, 0, n - 1, 0⟩⟩]
    ∧ addV [⟨1, ⟨n, 0, 1, 0⟩⟩] [⟨n, ⟨n - 1, 0, 0, 0⟩⟩] = (sumOf 1 n 1 n (n - 1) 0, true) ∧ addV [⟨1, ⟨1, 0, n, 0⟩⟩] [⟨n, ⟨0, 0, n - 1, 0⟩⟩] = (sumOf 1 1 n n 0 (n - 1), true) := by
  obtain ⟨b, c, d, e⟩ := pw_at h1 h2
  simp only [pwB, pwC, pwD, pwE, Bool.and_eq_true, sq_iff] at b c d e
  exact ⟨Prod.ext b.1 b.2, Prod.ext c.1 c.2, d.1.1.1.1.1, d.1.1.1.1.2, d.1.1.1.2, d.1.1.2, d.1.2, d.2, Prod.ext rfl e.1, Prod.ext rfl e.2⟩
theorem polOf_D : polOf 1 ⟨0, 0, 1, 0⟩ = [⟨1, ⟨0, 0, 1, 0⟩⟩] := rfl
theorem polOf_X : polOf 1 ⟨1, 0, 0, 0⟩ = [⟨1, ⟨1, 0, 0, 0⟩⟩] := rfl

theorem lit8p (a b c d e f g h u : Int) (u0 : 0 ≤ u) (u1 : u < 8) : #[Value.int .i64 a, .int .i64 b, .int .i64 c, .int .i64 d, .int .i64 e, .int .i64 f, .int .i64 g, .int .i64 h][u.toNat]? = some (.int .i64 ([a, b, c, d, e, f, g, h].getD u.toNat 0)) := by
  have hu : u = 0 ∨ u = 1 ∨ u = 2 ∨ u = 3 ∨ u = 4 ∨ u = 5 ∨ u = 6 ∨ u = 7 := by omega
  rcases hu with rfl | rfl | rfl | rfl | rfl | rfl | rfl | rfl <;> rfl
theorem lst8p (a b c d e f g h u : Int) (u0 : 0 ≤ u) (u1 : u < 8) (hl : u.toNat < [Value.int .i64 a, .int .i64 b, .int .i64 c, .int .i64 d, .int .i64 e, .int .i64 f, .int .i64 g, .int .i64 h].length) : [Value.int .i64 a, .int .i64 b, .int .i64 c, .int .i64 d, .int .i64 e, .int .i64 f, .int .i64 g, .int .i64 h][u.toNat]'hl = .int .i64 ([a, b, c, d, e, f, g, h].getD u.toNat 0) := by
  have hu : u = 0 ∨ u = 1 ∨ u = 2 ∨ u = 3 ∨ u = 4 ∨ u = 5 ∨ u = 6 ∨ u = 7 := by omega
  rcases hu with rfl | rfl | rfl | rfl | rfl | rfl | rfl | rfl <;> rfl
set_option maxRecDepth 100000 in
set_option maxHeartbeats 4000000 in
theorem drawWylPow (w : World) (a : Option Addr) (len cap : Nat) (h : Src w a len cap) :
    Calls Try.prog 4 #[.slice a len cap] w fun e w' => ∃ (v : Value) (y : Int), e = .returned (.tuple #[v, .int .i64 y]) ∧ Below w.heap.size w w' := by
  go_enter Try.func4, Try.ntmps4
  go_wp2_with fail
  refine (open_any _ _ _ _ h).mono ?_
  rintro e w1 ⟨rfl, r1, b1⟩
  clear h
  go_wp2_with fail
  refine (pick_any w1 _ _ 12 r1 (by omega) (by omega) (by omega)).mono ?_
  rintro e w2 ⟨x, rfl, x0, x1, k2⟩
  have r2 : Rdr w2 w.heap.size 1 := k2.rdr r1
  have b2 := k2.beside.below b1 (Nat.le_refl _) b1.size
  have lt2 := r2.lt
  clear k2 r1 b1
  by_cases hx : x = 0
  · subst hx
    go_wp2_with fail
    refine (any_any w2 _ _ 1 r2 (by omega) (by omega) (by omega)).mono ?_
    rintro e w3 ⟨pa, m, pc, f, q, rfl, hrd, hm, hblk, hq, r3, s3⟩
    have b3 := s3.below b2 (Nat.le_refl _) b2.size
    clear s3 hrd hblk r2 b2
    go_wp2_with fail
    refine (pick_any w3 _ _ 4 r3 (by omega) (by omega) (by omega)).mono ?_
    rintro e w4 ⟨j, rfl, j0, j1, k4⟩
    have b4 := k4.beside.below b3 (Nat.le_refl _) b3.size
    clear k4 b3 r3
    go_wp2
    go_ret2
    exact ⟨_, _, rfl, b4⟩
  · have hxb : (x == 0) = false := by simp [hx]
    clear hx
    go_wp2_with fail
    have r2d : Rdr w2.drew w.heap.size 1 := r2.drewN 1
    have b2d : Below w.heap.size w w2.drew := b2.drew
    have r2a : ∀ o, Rdr (World.drew (World.alloc w2 o)) w.heap.size 1 := fun o => (r2.alloc o).drewN 1
    have b2a : ∀ o, Below w.heap.size w (World.drew (World.alloc w2 o)) := fun o => (Below.alloc b2 b2.size o).drew
    have c2a : ∀ t (u : Int), 0 ≤ u → u < 8 → ∃ x, (World.drew (World.alloc w2 (.cells #[.int .i64 0, .int .i64 1, .int .i64 2, .int .i64 3, .int .i64 4, .int .i64 8, .int .i64 9, .int .i64 (-1)] t))).cell? ⟨w2.heap.size, u.toNat, none⟩ = some (.int .i64 x) := fun t u u0 u1 => ⟨_, by show (World.alloc w2 _).cell? _ = _; rw [World.cell?_alloc_at _ _ _ _ rfl]; exact lit8p 0 1 2 3 4 8 9 (-1) u u0 u1⟩
    have z2a : ∀ o, w2.heap.size < (World.drew (World.alloc w2 o)).heap.size := fun o => by simp
    go_region_with (first
      | (go_at_call 13; with_reducible show Calls _ _ _ w2.drew _; refine (pol_any w2.drew w.heap.size 1 2 r2d (by omega) (by omega) (by omega)).mono ?_; rintro e w3 ⟨v3, L3, q3, rfl, ho3, hl3, hc3, hq3, r3, s3⟩; have b3 := s3.below b2d (Nat.le_refl _) b2d.size; have lt3 := r3.lt; clear ho3 hl3 hc3 s3)
      | (go_at_call 13; with_reducible show Calls _ _ _ (World.drew (World.alloc w2 _)) _; refine (pol_any (World.drew (World.alloc w2 _)) w.heap.size 1 2 (r2a _) (by omega) (by omega) (by omega)).mono ?_; rintro e w3 ⟨v3, L3, q3, rfl, ho3, hl3, hc3, hq3, r3, s3⟩; have b3 := s3.below (b2a _) (Nat.le_refl _) (b2a _).size; have lt3 := r3.lt; have ha : ∀ u : Int, 0 ≤ u → u < 8 → ∃ x, w3.cell? ⟨w2.heap.size, u.toNat, none⟩ = some (.int .i64 x) := (fun u u0 u1 => (c2a _ u u0 u1).imp fun x hx => (s3.cell (z2a _) (by omega)).trans hx); have hlt3 : w2.heap.size < w3.heap.size := Nat.lt_of_lt_of_le (z2a _) s3.size; clear ho3 hl3 hc3 s3)
      | (go_at_call 11; with_reducible show Calls _ _ _ w3 _; refine (pick_any w3 w.heap.size q3 8 r3 (by omega) (by omega) (by omega)).mono ?_; rintro e w4 ⟨u, rfl, u0, u1, k4⟩; obtain ⟨x4, hx4⟩ := ha u u0 u1; have hx5 : w4.cell? ⟨w2.heap.size, u.toNat, none⟩ = some (.int .i64 x4) := (k4.beside.cell hlt3 (by omega)).trans hx4; have b4 := k4.beside.below b3 (Nat.le_refl _) b3.size; clear k4 ha hx4)
      | (go_at_call 11; with_reducible show Calls _ _ _ w3 _; refine (pick_any w3 w.heap.size q3 8 r3 (by omega) (by omega) (by omega)).mono ?_; rintro e w4 ⟨u, rfl, u0, u1, k4⟩; have b4 := k4.beside.below b3 (Nat.le_refl _) b3.size; have l8 := lst8p 0 1 2 3 4 8 9 (-1) u u0 u1; obtain ⟨g8, hg8⟩ : ∃ g : Int, g = [0, 1, 2, 3, 4, 8, 9, -1].getD u.toNat 0 := ⟨_, rfl⟩; simp only [← hg8] at l8; clear hg8 k4)
      | (go_at_call 11; with_reducible show Calls _ _ _ (World.alloc w3 _) _; refine (pick_any (w3.alloc _) w.heap.size q3 8 (Rdr.alloc r3 _) (by omega) (by omega) (by omega)).mono ?_; rintro e w4 ⟨u, rfl, u0, u1, k4⟩; have b4 := k4.beside.below (Below.alloc b3 b3.size _) (Nat.le_refl _) (by have := b3.size; simp; omega); have hx : ∃ x, w4.cell? ⟨w3.heap.size, u.toNat, none⟩ = some (.int .i64 x) := ⟨_, by rw [k4.beside.cell (by simp) (by omega)]; refine (World.cell?_alloc_at _ _ _ _ rfl).trans ?_; exact lit8p _ _ _ _ _ _ _ _ _ u0 u1⟩; obtain ⟨x4, hx4⟩ := hx; clear k4))
    all_goals
      go_wp2
      go_ret2
      first
        | exact ⟨_, _, rfl, b4⟩
        | exact ⟨_, _, rfl, b4.alloc b4.size _⟩
end Go.Proofs.Ytbdbdmblhlclaaa
