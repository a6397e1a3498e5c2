/-
  The monomials within a side, one behind the other: the program's iterator.
-/
import Derived.Test.YtmlaedpamobmhabGan
import Derived.Test.YtmlaedpamobmhabSpB
import Derived.OwnWalkIn
import Derived.TacticsInMore
import Derived.LoopNIn
import Derived.LoopIn
import Derived.WalkKit
import Derived.BigRegionIn
namespace Go.Proofs.Ytmlaedpamobmhab
open Go.RowKit
set_option linter.unusedVariables false
set_option linter.unusedSimpArgs false
def fn4 (s n : Nat) : M := fm (n % (s + 1)) (n / (s + 1) % (s + 1)) (n / (s + 1) / (s + 1) % (s + 1)) (n / (s + 1) / (s + 1) / (s + 1))
def mons (s : Nat) : Nat → List M
  | 0 => []
  | n + 1 => mons s n ++ [fn4 s n]
theorem mons_pre (s : Nat) {n : Nat} : ∀ {m : Nat}, n ≤ m → mons s n <+: mons s m
  | 0, h => by have : n = 0 := by omega
               subst this; exact List.prefix_rfl
  | m + 1, h => by
    rcases Nat.lt_or_ge m n with h1 | h1
    · have : n = m + 1 := by omega
      subst this; exact List.prefix_rfl
    · exact (mons_pre s h1).trans ⟨_, rfl⟩
def encM (m : M) : Array Value := #[.agg #[.int .i64 m.x, .int .i64 m.y, .int .i64 m.d, .int .i64 m.e]]
set_option maxRecDepth 100000 in
set_option maxHeartbeats 4000000 in
theorem withinI (s : Nat) (hs : s ≤ 6) (P4 : Nat) (hP4 : P4 = (s + 1) * (s + 1) * (s + 1) * (s + 1)) (lo : Nat) (w : World) (hb : Boxed w lo 3 (.int .i64 (s : Int))) :
    SeqB Try.prog 49 #[.pointer (some ⟨lo, 0, none⟩)] encM lo (lo + 1) (mons s P4) w := by
  intro l J Jx W hW hJ hJb hY h0
  have hlt : lo < w.heap.size := hb.lt
  have hB0 : Boxed W lo 3 (.int .i64 (s : Int)) := (hW.block _ hlt).trans hb
  have HJ := Hid.mk' hJ
  have HY : Hid (∀ pre x W1, J pre W1 → pre ++ [x] <+: mons s P4 → YieldAt Fence.wide 8 Try.prog l (#[.agg #[.int .i64 x.x, .int .i64 x.y, .int .i64 x.d, .int .i64 x.e]]) W1 fun e W' => (e = .returned (.bool true) ∧ J (pre ++ [x]) W' ∧ KpB lo (lo + 1) W1 W') ∨ (e = .returned (.bool false) ∧ Jx (pre ++ [x]) W')) := Hid.mk' (fun pre x W1 a b => yldB 8 (hY pre x W1 a b))
  clear hJ hJb hY hW hb
  refine (callsIn_wide (n := 9)).1 ?_
  refine callsIn_of_wp Try.func49 rfl trivial ?_ rfl
  simp only [Try.ntmps49, List.size_toArray, List.length_cons, List.length_nil, Nat.reduceAdd, Nat.reduceSub, Array.replicate_succ, Array.replicate_zero, List.push_toArray, List.append_toArray, List.nil_append, List.cons_append]
  have c1 := hB0.cell
  obtain ⟨P2, hP2⟩ : ∃ P2, P2 = (s + 1) * (s + 1) := ⟨_, rfl⟩
  obtain ⟨P3, hP3⟩ : ∃ P3, P3 = P2 * (s + 1) := ⟨_, rfl⟩
  have hP4' : P4 = P3 * (s + 1) := by rw [hP4, hP3, hP2]
  have b2 : P2 ≤ 49 := by rw [hP2]; exact Nat.le_trans (Nat.mul_le_mul (by omega : s + 1 ≤ 7) (by omega : s + 1 ≤ 7)) (by decide)
  have b3 : P3 ≤ 343 := by rw [hP3]; exact Nat.le_trans (Nat.mul_le_mul b2 (by omega : s + 1 ≤ 7)) (by decide)
  have b4 : P4 ≤ 2401 := by rw [hP4']; exact Nat.le_trans (Nat.mul_le_mul b3 (by omega : s + 1 ≤ 7)) (by decide)
  have i2 : ((s : Int) + 1) * ((s : Int) + 1) = (P2 : Int) := by rw [hP2]; simp
  have i3 : (P2 : Int) * ((s : Int) + 1) = (P3 : Int) := by rw [hP3]; simp
  have i4 : (P3 : Int) * ((s : Int) + 1) = (P4 : Int) := by rw [hP4']; simp
  have s0 : (0 : Int) ≤ (s : Int) := by omega
  have s6 : (s : Int) ≤ 6 := by omega
  clear hP2 hP3 hP4 hP4'
  gi_wp2
  clear c1 i2 i3 i4
  gi_loopw [15] (fun v wr => ∃ n : Nat, n ≤ P4 ∧ v = .int .i64 (n : Int) ∧ Hid (J (mons s n) wr)) (fun v _ => P4 - (intOf v).toNat)
  case atStart => exact ⟨0, Nat.zero_le _, rfl, Hid.mk' h0⟩
  case round =>
    obtain ⟨n, hn, rfl, HJP⟩ := hrel
    have n0 : (0 : Int) ≤ (n : Int) := by omega
    by_cases hlt : n < P4
    · have cn : (n : Int) < (P4 : Int) := by omega
      obtain ⟨n1, h1⟩ : ∃ n1, n / (s + 1) = n1 := ⟨_, rfl⟩
      obtain ⟨n2, h2⟩ : ∃ n2, n1 / (s + 1) = n2 := ⟨_, rfl⟩
      obtain ⟨n3, h3⟩ : ∃ n3, n2 / (s + 1) = n3 := ⟨_, rfl⟩
      obtain ⟨r0, g0⟩ : ∃ r0, n % (s + 1) = r0 := ⟨_, rfl⟩
      obtain ⟨r1, g1⟩ : ∃ r1, n1 % (s + 1) = r1 := ⟨_, rfl⟩
      obtain ⟨r2, g2⟩ : ∃ r2, n2 % (s + 1) = r2 := ⟨_, rfl⟩
      have HX : Hid (fn4 s n = fm r0 r1 r2 n3) := by
        show fn4 s n = _
        unfold fn4
        rw [h1, h2, h3, g0, g1, g2]
      have d1 : (n : Int).tdiv ((s : Int) + 1) = (n1 : Int) := by rw [← h1]; exact (Int.ofNat_tdiv n (s + 1)).symm
      have d2 : (n1 : Int).tdiv ((s : Int) + 1) = (n2 : Int) := by rw [← h2]; exact (Int.ofNat_tdiv n1 (s + 1)).symm
      have d3 : (n2 : Int).tdiv ((s : Int) + 1) = (n3 : Int) := by rw [← h3]; exact (Int.ofNat_tdiv n2 (s + 1)).symm
      have e0 : (n : Int).tmod ((s : Int) + 1) = (r0 : Int) := by rw [← g0]; exact (Int.ofNat_tmod n (s + 1)).symm
      have e1 : (n1 : Int).tmod ((s : Int) + 1) = (r1 : Int) := by rw [← g1]; exact (Int.ofNat_tmod n1 (s + 1)).symm
      have e2 : (n2 : Int).tmod ((s : Int) + 1) = (r2 : Int) := by rw [← g2]; exact (Int.ofNat_tmod n2 (s + 1)).symm
      have l1 : n1 ≤ n := by rw [← h1]; exact Nat.div_le_self _ _
      have l2 : n2 ≤ n1 := by rw [← h2]; exact Nat.div_le_self _ _
      have l3 : n3 ≤ n2 := by rw [← h3]; exact Nat.div_le_self _ _
      have l4 : r0 ≤ n := by rw [← g0]; exact Nat.mod_le _ _
      have l5 : r1 ≤ n1 := by rw [← g1]; exact Nat.mod_le _ _
      have l6 : r2 ≤ n2 := by rw [← g2]; exact Nat.mod_le _ _
      have hne : ¬ ((s : Int) + 1 = 0) := by omega
      have m0 : (n : Int) ≤ 2401 := by omega
      have m1 : (n1 : Int) ≤ 2401 := by omega
      have m2 : (n2 : Int) ≤ 2401 := by omega
      have m3 : (n3 : Int) ≤ 2401 := by omega
      have k1 : (0 : Int) ≤ (n1 : Int) := by omega
      have k2 : (0 : Int) ≤ (n2 : Int) := by omega
      have k3 : (0 : Int) ≤ (n3 : Int) := by omega
      clear h1 h2 h3 g0 g1 g2
      gi_wp2
      gi_region
      obtain ⟨q0, q1, q2, q3⟩ := M4.box wr 31 (r0 : Int) (r1 : Int) (r2 : Int) (n3 : Int)
      have hJ5 : J (mons s n) (wr.alloc (.cells #[.int .i64 (r0 : Int), .int .i64 (r1 : Int), .int .i64 (r2 : Int), .int .i64 (n3 : Int)] 31)).drew := HJ.out _ _ _ none HJP.out ((World.grownBy_alloc wr _ none).trans ⟨rfl, rfl, rfl, Nat.le_refl _, fun _ _ _ => rfl⟩) (fun r e => by cases e)
      obtain ⟨W5, hW5⟩ : ∃ W5, (wr.alloc (.cells #[.int .i64 (r0 : Int), .int .i64 (r1 : Int), .int .i64 (r2 : Int), .int .i64 (n3 : Int)] 31)).drew = W5 := ⟨_, rfl⟩
      have y0 : W5.cell? ⟨wr.heap.size, 0, none⟩ = some (.int .i64 (r0 : Int)) := by rw [← hW5]; exact q0
      have y1 : W5.cell? ⟨wr.heap.size, 1, none⟩ = some (.int .i64 (r1 : Int)) := by rw [← hW5]; exact q1
      have y2 : W5.cell? ⟨wr.heap.size, 2, none⟩ = some (.int .i64 (r2 : Int)) := by rw [← hW5]; exact q2
      have y3 : W5.cell? ⟨wr.heap.size, 3, none⟩ = some (.int .i64 (n3 : Int)) := by rw [← hW5]; exact q3
      rw [hW5] at hJ5
      rw [hW5]
      have HPR : Hid (mons s n ++ [fm r0 r1 r2 n3] = mons s (n + 1)) := by
        show _ = _
        rw [← HX.out]
        rfl
      have hpre : mons s n ++ [fm r0 r1 r2 n3] <+: mons s P4 := by rw [HPR.out]; exact mons_pre s (by omega)
      have HPRE := Hid.mk' hpre
      obtain ⟨R, hR⟩ : ∃ R : Ending → World → Prop, R = fun e W' => (e = .returned (.bool true) ∧ J (mons s n ++ [fm r0 r1 r2 n3]) W' ∧ KpB lo (lo + 1) W5 W') ∨ (e = .returned (.bool false) ∧ Jx (mons s n ++ [fm r0 r1 r2 n3]) W') := ⟨_, rfl⟩
      have HR := Hid.mk' hR
      have hy : YieldAt Fence.wide 8 Try.prog l (#[.agg #[.int .i64 (r0 : Int), .int .i64 (r1 : Int), .int .i64 (r2 : Int), .int .i64 (n3 : Int)]]) W5 R := by rw [hR]; exact HY.out (mons s n) (fm r0 r1 r2 n3) W5 hJ5 hpre
      obtain ⟨fn, tmps, assign, body, hyl, hRd⟩ := hy
      clear hR hpre hW5 q0 q1 q2 q3 hJ5 d1 d2 d3 e0 e1 e2
      gi_wp2_with gi_in
      refine hRd.mono ?_
      rw [HR.out]
      rintro e W3 (⟨rfl, hJ3, hk3⟩ | ⟨rfl, hJx3⟩)
      · rw [HPR.out] at hJ3
        have HJ3 := Hid.mk' hJ3
        clear hJ3 hk3 y0 y1 y2 y3
        gi_wp2
        go_roundw
        case rel => exact ⟨n + 1, by omega, by go_num, HJ3⟩
        case measure => simp [intOf]; omega
      · clear y0 y1 y2 y3
        gi_wp2
        refine bodyPost_ret (results_none rfl _ _ _) rfl ?_
        exact ⟨⟨_, rfl⟩, .inr ⟨_, HPRE.out, hJx3⟩⟩
    · have cn : ¬ (n : Int) < (P4 : Int) := by omega
      have zn : n = P4 := by omega
      have HJE : Hid (J (mons s P4) wr) := by rw [← zn]; exact HJP
      clear zn
      gi_wp2
      go_end0
      exact ⟨⟨_, rfl⟩, .inl HJE.out⟩
end Go.Proofs.Ytmlaedpamobmhab
