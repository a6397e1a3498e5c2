/-
  More of chapter 2's model: what divides, what is left, what both divide.
  What the functions of the program's chapter 2 return: the same plain functions as the model's.
  A term put into a sum, in the model.
-/
import Derived.Test.YtddfpjjeoojlmaaGaa
import Derived.Test.YtddfpjjeoojlmaaGab
import Derived.Test.YtddfpjjeoojlmaaGac
namespace Go.Proofs.Ytddfpjjeoojlmaa
open Go.RowKit
set_option linter.unusedVariables false

theorem M.dvd_iff {a b : M} (h : a.dvd b = true) : a.ok = true ∧ b.ok = true ∧ a.x ≤ b.x ∧ a.y ≤ b.y ∧ a.d ≤ b.d ∧ a.e ≤ b.e := by
  simp [M.dvd] at h
  exact ⟨h.1.1, h.1.2, h.2⟩
theorem maxS (a b : Int) (w : World) :
    Calls Try.prog 55 #[.int .i64 a, .int .i64 b] w fun r w' => r = .returned (.int .i64 (mx a b)) ∧ w' = w := by
  by_cases h : b < a
  · have e1 : mx a b = a := if_pos h
    rw [e1]
    go_enter Try.func55, Try.ntmps55
    go_wp2
    go_ret
    exact ⟨rfl, rfl⟩
  · have e1 : mx a b = b := if_neg h
    rw [e1]
    go_enter Try.func55, Try.ntmps55
    go_wp2
    go_ret
    exact ⟨rfl, rfl⟩
theorem far4 {w : World} {B b o o0 o1 o2 o3 : Nat} {u0 u1 u2 u3 : Value} (h : b ≠ B) : ((((w.setCell ⟨B, o0, none⟩ u0).setCell ⟨B, o1, none⟩ u1).setCell ⟨B, o2, none⟩ u2).setCell ⟨B, o3, none⟩ u3).cell? ⟨b, o, none⟩ = w.cell? ⟨b, o, none⟩ := by
  refine World.cell?_of_block ?_
  rw [Below.heap_setCell _ _ _ _ h, Below.heap_setCell _ _ _ _ h, Below.heap_setCell _ _ _ _ h, Below.heap_setCell _ _ _ _ h]
end Go.Proofs.Ytddfpjjeoojlmaa
namespace Go.Proofs.Ytddfpjjeoojlmaa
open Go.RowKit
set_option linter.unusedVariables false

theorem bel_one (w : World) (A : Obj) : Below w.heap.size w (w.alloc A) := (Below.refl _ _).alloc (Nat.le_refl _) _
theorem ext_box {w : World} {t : TypeId} (A : Array Value) (i : Nat) (v : Value) (h : A[i]? = some v) : ∀ u : Ext (w.alloc (.cells A t)), u.1.cell? ⟨w.heap.size, i, none⟩ = some v := fun u => by
  rw [u.cell (by simp), World.cell?_alloc_at _ _ _ _ rfl]; exact h
set_option maxHeartbeats 400000 in
theorem countsI (x y d e : Int) (w : World) :
    Calls Try.prog 70 #[.agg #[.int .i64 x, .int .i64 y, .int .i64 d, .int .i64 e]] w fun r w' => r = .returned (.agg #[.int .i64 x, .int .i64 y, .int .i64 d, .int .i64 e]) ∧ Below w.heap.size w w' := by
  go_enter Try.func70, Try.ntmps70
  go_wp2
  refine bodyPost_ret (v := .agg #[.int .i64 x, .int .i64 y, .int .i64 d, .int .i64 e]) (by simp [results, Try.results70, go_sem]) rfl ⟨rfl, ?_⟩
  exact bel_two w _ _
set_option maxHeartbeats 400000 in
theorem degreeI (x y d e : Int) (w : World) (h : M.ok ⟨x, y, d, e⟩ = true) :
    Calls Try.prog 56 #[.agg #[.int .i64 x, .int .i64 y, .int .i64 d, .int .i64 e]] w fun r w' => r = .returned (.int .i64 (x + y + d + e)) ∧ Below w.heap.size w w' := by
  obtain ⟨x1, x2, y1, y2, d1, d2, e1, e2⟩ := M.ok_iff.1 h
  simp only at x1 x2 y1 y2 d1 d2 e1 e2
  clear h
  go_enter Try.func56, Try.ntmps56
  go_wp2
  go_ret
  exact ⟨rfl, bel_one w _⟩
/-- what an order asks for, as one number. -/
def rkL (m : M) : Int := ((m.d * 16 + m.e) * 16 + m.x) * 16 + m.y
def rkD (m : M) : Int := (m.x + m.y + m.d + m.e) * 65536 + rkL m
def rkO (m : M) : Int := (m.d + m.x) * 65536 + rkL m
set_option maxHeartbeats 400000 in
theorem rankLexI (x y d e : Int) (w : World) (h : M.ok ⟨x, y, d, e⟩ = true) :
    Calls Try.prog 65 #[.agg #[.int .i64 x, .int .i64 y, .int .i64 d, .int .i64 e]] w fun r w' => r = .returned (.int .i64 (rkL ⟨x, y, d, e⟩)) ∧ Below w.heap.size w w' := by
  obtain ⟨x1, x2, y1, y2, d1, d2, e1, e2⟩ := M.ok_iff.1 h
  simp only at x1 x2 y1 y2 d1 d2 e1 e2
  clear h
  simp only [rkL]
  go_enter Try.func65, Try.ntmps65
  go_wp2
  go_ret
  exact ⟨rfl, bel_one w _⟩
set_option maxHeartbeats 1000000 in
theorem rankDegI (x y d e : Int) (w : World) (h : M.ok ⟨x, y, d, e⟩ = true) :
    Calls Try.prog 48 #[.agg #[.int .i64 x, .int .i64 y, .int .i64 d, .int .i64 e]] w fun r w' => r = .returned (.int .i64 (rkD ⟨x, y, d, e⟩)) ∧ Below w.heap.size w w' := by
  obtain ⟨x1, x2, y1, y2, d1, d2, e1, e2⟩ := M.ok_iff.1 h
  simp only at x1 x2 y1 y2 d1 d2 e1 e2
  have HK := Hid.mk' h
  have k1 : 0 ≤ rkL ⟨x, y, d, e⟩ := by simp only [rkL]; omega
  have k2 : rkL ⟨x, y, d, e⟩ ≤ 65535 := by simp only [rkL]; omega
  have r1 : rkD ⟨x, y, d, e⟩ = (x + y + d + e) * 65536 + rkL ⟨x, y, d, e⟩ := rfl
  rw [r1]
  clear h r1
  go_enter Try.func48, Try.ntmps48
  go_wp2_with fail
  have B1 := Hid.mk' (bel_one w (.cells #[.int .i64 x, .int .i64 y, .int .i64 d, .int .i64 e] 33))
  have ne := Ext.there (w.alloc (.cells #[.int .i64 x, .int .i64 y, .int .i64 d, .int .i64 e] 33))
  have s0 := ext_box (w := w) (t := 33) #[.int .i64 x, .int .i64 y, .int .i64 d, .int .i64 e] 0 _ rfl
  have s1 := ext_box (w := w) (t := 33) #[.int .i64 x, .int .i64 y, .int .i64 d, .int .i64 e] 1 _ rfl
  have s2 := ext_box (w := w) (t := 33) #[.int .i64 x, .int .i64 y, .int .i64 d, .int .i64 e] 2 _ rfl
  have s3 := ext_box (w := w) (t := 33) #[.int .i64 x, .int .i64 y, .int .i64 d, .int .i64 e] 3 _ rfl
  refine wp_region_ext (by kernel_rfl) (by kernel_rfl) ?_
  repeat (go_big_quiet_step (first | (go_at_call 56; exact ext_grows (degreeI _ _ _ _ _ HK.out)) | (go_at_call 65; exact ext_grows (rankLexI _ _ _ _ _ HK.out))))
  refine wpQuiet_nil ?_
  rintro _ ⟨u, rfl⟩
  go_wp2
  go_ret
  exact ⟨rfl, B1.out.trans (u.2.mono B1.out.size)⟩
/-- the four, one by one. -/
def cnt (x y d e : Int) : Nat → Int
  | 0 => x
  | 1 => y
  | 2 => d
  | _ => e
set_option maxHeartbeats 1000000 in
theorem monOkI (x y d e : Int) (w : World) :
    Calls Try.prog 64 #[.agg #[.int .i64 x, .int .i64 y, .int .i64 d, .int .i64 e]] w fun r w' => r = .returned (.bool (M.ok ⟨x, y, d, e⟩)) ∧ Below w.heap.size w w' := by
  have i0 : ∀ w : World, (Instr.index 78 (.agg #[.int .i64 x, .int .i64 y, .int .i64 d, .int .i64 e]) (.int .i64 0)).run Try.prog w = .ok (.int .i64 x) w := fun _ => by kernel_rfl
  have i1 : ∀ w : World, (Instr.index 78 (.agg #[.int .i64 x, .int .i64 y, .int .i64 d, .int .i64 e]) (.int .i64 1)).run Try.prog w = .ok (.int .i64 y) w := fun _ => by kernel_rfl
  have i2 : ∀ w : World, (Instr.index 78 (.agg #[.int .i64 x, .int .i64 y, .int .i64 d, .int .i64 e]) (.int .i64 2)).run Try.prog w = .ok (.int .i64 d) w := fun _ => by kernel_rfl
  have i3 : ∀ w : World, (Instr.index 78 (.agg #[.int .i64 x, .int .i64 y, .int .i64 d, .int .i64 e]) (.int .i64 3)).run Try.prog w = .ok (.int .i64 e) w := fun _ => by kernel_rfl
  go_enter Try.func64, Try.ntmps64
  go_wp2_with fail
  refine (countsI x y d e _).mono ?_
  rintro r w1 ⟨rfl, hb⟩
  have B1 := Hid.mk' (bel_next (bel_one w _) hb)
  clear hb
  go_wp2
  go_loop [7] (fun i => ∃ k : Nat, k ≤ 4 ∧ i = .int .i64 k ∧ Hid (∀ j, j < k → 0 ≤ cnt x y d e j ∧ cnt x y d e j ≤ 15)) (fun i => 4 - (intOf i).toNat)
  case atStart => exact ⟨0, by omega, rfl, fun j hj => absurd hj (Nat.not_lt_zero _)⟩
  case round =>
    obtain ⟨k, hk, rfl, hok⟩ := hrel
    have hk5 : k = 4 ∨ k = 0 ∨ k = 1 ∨ k = 2 ∨ k = 3 := by omega
    rcases hk5 with rfl | rfl | rfl | rfl | rfl
    · have hp : M.ok ⟨x, y, d, e⟩ = true := M.ok_iff.2 ⟨(hok.out 0 (by omega)).1, (hok.out 0 (by omega)).2, (hok.out 1 (by omega)).1, (hok.out 1 (by omega)).2, (hok.out 2 (by omega)).1, (hok.out 2 (by omega)).2, (hok.out 3 (by omega)).1, (hok.out 3 (by omega)).2⟩
      have HP := Hid.mk' hp
      clear hp
      go_wp2
      go_ret
      exact ⟨by rw [HP.out]; rfl, B1.out⟩
    · by_cases h1 : x < 0
      · have hp : Hid (M.ok ⟨x, y, d, e⟩ = false) := M.ok_not.2 (fun h => by simp only at h; omega)
        go_wp2
        go_ret
        exact ⟨by rw [hp.out]; rfl, B1.out⟩
      · by_cases h2 : 15 < x
        · have hp : Hid (M.ok ⟨x, y, d, e⟩ = false) := M.ok_not.2 (fun h => by simp only at h; omega)
          go_wp2
          go_ret
          exact ⟨by rw [hp.out]; rfl, B1.out⟩
        · have hn : Hid (∀ j, j < 1 → 0 ≤ cnt x y d e j ∧ cnt x y d e j ≤ 15) := fun j hj => by
            obtain rfl : j = 0 := by omega
            exact ⟨Int.not_lt.1 h1, Int.not_lt.1 h2⟩
          go_wp2
          go_round
          case rel => exact ⟨1, by omega, rfl, hn⟩
          case measure => simp [intOf]
    · by_cases h1 : y < 0
      · have hp : Hid (M.ok ⟨x, y, d, e⟩ = false) := M.ok_not.2 (fun h => by simp only at h; omega)
        go_wp2
        go_ret
        exact ⟨by rw [hp.out]; rfl, B1.out⟩
      · by_cases h2 : 15 < y
        · have hp : Hid (M.ok ⟨x, y, d, e⟩ = false) := M.ok_not.2 (fun h => by simp only at h; omega)
          go_wp2
          go_ret
          exact ⟨by rw [hp.out]; rfl, B1.out⟩
        · have hn : Hid (∀ j, j < 2 → 0 ≤ cnt x y d e j ∧ cnt x y d e j ≤ 15) := fun j hj => by
            by_cases hj1 : j < 1
            · exact hok.out j hj1
            · obtain rfl : j = 1 := by omega
              exact ⟨Int.not_lt.1 h1, Int.not_lt.1 h2⟩
          go_wp2
          go_round
          case rel => exact ⟨2, by omega, rfl, hn⟩
          case measure => simp [intOf]
    · by_cases h1 : d < 0
      · have hp : Hid (M.ok ⟨x, y, d, e⟩ = false) := M.ok_not.2 (fun h => by simp only at h; omega)
        go_wp2
        go_ret
        exact ⟨by rw [hp.out]; rfl, B1.out⟩
      · by_cases h2 : 15 < d
        · have hp : Hid (M.ok ⟨x, y, d, e⟩ = false) := M.ok_not.2 (fun h => by simp only at h; omega)
          go_wp2
          go_ret
          exact ⟨by rw [hp.out]; rfl, B1.out⟩
        · have hn : Hid (∀ j, j < 3 → 0 ≤ cnt x y d e j ∧ cnt x y d e j ≤ 15) := fun j hj => by
            by_cases hj1 : j < 2
            · exact hok.out j hj1
            · obtain rfl : j = 2 := by omega
              exact ⟨Int.not_lt.1 h1, Int.not_lt.1 h2⟩
          go_wp2
          go_round
          case rel => exact ⟨3, by omega, rfl, hn⟩
          case measure => simp [intOf]
    · by_cases h1 : e < 0
      · have hp : Hid (M.ok ⟨x, y, d, e⟩ = false) := M.ok_not.2 (fun h => by simp only at h; omega)
        go_wp2
        go_ret
        exact ⟨by rw [hp.out]; rfl, B1.out⟩
      · by_cases h2 : 15 < e
        · have hp : Hid (M.ok ⟨x, y, d, e⟩ = false) := M.ok_not.2 (fun h => by simp only at h; omega)
          go_wp2
          go_ret
          exact ⟨by rw [hp.out]; rfl, B1.out⟩
        · have hn : Hid (∀ j, j < 4 → 0 ≤ cnt x y d e j ∧ cnt x y d e j ≤ 15) := fun j hj => by
            by_cases hj1 : j < 3
            · exact hok.out j hj1
            · obtain rfl : j = 3 := by omega
              exact ⟨Int.not_lt.1 h1, Int.not_lt.1 h2⟩
          go_wp2
          go_round
          case rel => exact ⟨4, by omega, rfl, hn⟩
          case measure => simp [intOf]
theorem monOkI_of {x y d e : Int} {b : Bool} (h : M.ok ⟨x, y, d, e⟩ = b) (w : World) :
    Calls Try.prog 64 #[.agg #[.int .i64 x, .int .i64 y, .int .i64 d, .int .i64 e]] w fun r w' => r = .returned (.bool b) ∧ Below w.heap.size w w' := by
  rw [← h]; exact monOkI x y d e w
end Go.Proofs.Ytddfpjjeoojlmaa
namespace Go.Proofs.Ytddfpjjeoojlmaa
open Go.RowKit
set_option linter.unusedVariables false

def putT (c : Int) (m : M) (L : List T) : List T := if c = 0 then L else addT (lf L) L.length (fun _ => ⟨c, m⟩) 1 0 0
/-- all numbers are of the field. -/
def Cok (L : List T) : Prop := ∀ t ∈ L, 0 ≤ t.c ∧ t.c ≤ 100
theorem cok_nil : Cok [] := fun t ht => by simp at ht
theorem lf_mem {L : List T} {i : Nat} (h : i < L.length) : lf L i ∈ L := by
  unfold lf
  rw [List.getD_eq_getElem?_getD, List.getElem?_eq_getElem h]
  exact List.getElem_mem h
theorem Cok.at {L : List T} (h : Cok L) : ∀ i, i < L.length → 0 ≤ (lf L i).c ∧ (lf L i).c ≤ 100 := fun i hi => h _ (lf_mem hi)
theorem addI_c {f : Nat → T} {la : Nat} {g : Nat → T} {lb : Nat} (hf : ∀ i, i < la → 0 ≤ (f i).c ∧ (f i).c ≤ 100) (hg : ∀ i, i < lb → 0 ≤ (g i).c ∧ (g i).c ≤ 100) : ∀ (u i k : Nat), Cok (mrgI f la g lb u i k)
  | 0, _, _ => by intro t ht; simp [mrgI] at ht
  | u + 1, i, k => by
    have a1 := addI_c hf hg u (i + 1) k
    have a2 := addI_c hf hg u i (k + 1)
    have a3 := addI_c hf hg u (i + 1) (k + 1)
    intro t ht
    simp only [mrgI] at ht
    split at ht
    · rename_i hh
      split at ht
      · rcases List.mem_cons.1 ht with rfl | ht
        · exact hf i hh.1
        · exact a1 t ht
      · split at ht
        · rcases List.mem_cons.1 ht with rfl | ht
          · exact hg k hh.2
          · exact a2 t ht
        · split at ht
          · rcases List.mem_cons.1 ht with rfl | ht
            · dsimp only; omega
            · exact a3 t ht
          · exact a3 t ht
    · split at ht
      · rename_i hh
        rcases List.mem_cons.1 ht with rfl | ht
        · exact hf i hh
        · exact a1 t ht
      · split at ht
        · rename_i hh
          rcases List.mem_cons.1 ht with rfl | ht
          · exact hg k hh
          · exact a2 t ht
        · cases ht
theorem putT_c {c : Int} {m : M} {L : List T} (hL : Cok L) (h0 : 0 ≤ c) (h1 : c ≤ 100) : Cok (putT c m L) := by
  unfold putT
  split
  · exact hL
  · exact addI_c hL.at (fun _ _ => ⟨h0, h1⟩) _ _ _
theorem putT_len (c : Int) (m : M) (L : List T) : (putT c m L).length ≤ L.length + 1 := by
  unfold putT
  split
  · omega
  · have := addT_len (lf L) L.length (fun _ => ⟨c, m⟩) 1 0 0
    omega
theorem rd_one (w : World) (t : T) : Rd (w.alloc (.cells #[.int .i64 t.c, .int .i64 t.m.x, .int .i64 t.m.y, .int .i64 t.m.d, .int .i64 t.m.e] 35)) (some ⟨w.heap.size, 0, none⟩) 1 1 (fun _ => t) := by
  refine ⟨Nat.le_refl _, by omega, .inr ⟨w.heap.size, 0, rfl, by simp, fun i hi => ?_⟩⟩
  obtain rfl : i = 0 := by omega
  exact ⟨by rw [World.cell?_alloc_at _ _ _ _ rfl]; rfl, by rw [World.cell?_alloc_at _ _ _ _ rfl]; rfl, by rw [World.cell?_alloc_at _ _ _ _ rfl]; rfl, by rw [World.cell?_alloc_at _ _ _ _ rfl]; rfl, by rw [World.cell?_alloc_at _ _ _ _ rfl]; rfl⟩
set_option maxRecDepth 100000 in
set_option maxHeartbeats 2000000 in
theorem l4PutS (w : World) (lo : Nat) (v : Value) (L : List T) (c x y d e : Int) (ho : w.ownsRow lo 35 5 v L.length (cellsL L)) (hlo : lo ≤ w.heap.size) (hl : L.length ≤ 1000) (hL : Cok L) (h0 : 0 ≤ c) (h1 : c ≤ 100) :
    Calls Try.prog 66 #[v, .int .i64 c, .agg #[.int .i64 x, .int .i64 y, .int .i64 d, .int .i64 e]] w fun r w' => ∃ v', r = .returned v' ∧ Below w.heap.size w w' ∧ w'.ownsRow lo 35 5 v' (putT c ⟨x, y, d, e⟩ L).length (cellsL (putT c ⟨x, y, d, e⟩ L)) := by
  by_cases hc : c = 0
  · subst hc
    have e1 : putT 0 ⟨x, y, d, e⟩ L = L := by simp [putT]
    rw [e1]
    have HO := Hid.mk' (owns_below ho (bel_one w (.cells #[.int .i64 x, .int .i64 y, .int .i64 d, .int .i64 e] 33)))
    clear ho e1
    go_enter Try.func66, Try.ntmps66
    go_wp2
    go_ret
    exact ⟨_, rfl, bel_one w _, HO.out⟩
  · have hcb : (c == 0) = false := by simp [hc]
    have e1 : putT c ⟨x, y, d, e⟩ L = addT (lf L) L.length (fun _ => ⟨c, ⟨x, y, d, e⟩⟩) 1 0 0 := by simp [putT, hc]
    rw [e1]
    obtain ⟨a, cap, rfl, hout⟩ := out_of_owns ho (by omega)
    have HR := Hid.mk' hout.1
    clear ho hout hc e1
    go_enter Try.func66, Try.ntmps66
    go_wp2_with fail
    have ha := Hid.mk' ((HR.out.below (bel_one w (.cells #[.int .i64 x, .int .i64 y, .int .i64 d, .int .i64 e] 33))).below (bel_one _ (.cells #[.int .i64 c, .int .i64 x, .int .i64 y, .int .i64 d, .int .i64 e] 35)))
    have hb := rd_one (w.alloc (.cells #[.int .i64 x, .int .i64 y, .int .i64 d, .int .i64 e] 33)) ⟨c, ⟨x, y, d, e⟩⟩
    have hb2 : Rd ((w.alloc (.cells #[.int .i64 x, .int .i64 y, .int .i64 d, .int .i64 e] 33)).alloc (.cells #[.int .i64 c, .int .i64 x, .int .i64 y, .int .i64 d, .int .i64 e] 35)) (some ⟨w.heap.size + 1, 0, none⟩) 1 1 (fun _ => ⟨c, ⟨x, y, d, e⟩⟩) := by simpa using hb
    have hz := Hid.mk' (bel_next (bel_one w (.cells #[.int .i64 x, .int .i64 y, .int .i64 d, .int .i64 e] 33)) (bel_one _ (.cells #[.int .i64 c, .int .i64 x, .int .i64 y, .int .i64 d, .int .i64 e] 35)))
    clear hb
    generalize ((w.alloc (.cells #[.int .i64 x, .int .i64 y, .int .i64 d, .int .i64 e] 33)).alloc (.cells #[.int .i64 c, .int .i64 x, .int .i64 y, .int .i64 d, .int .i64 e] 35)) = W at ha hb2 hz ⊢
    refine (l3AddS _ _ _ _ _ _ _ (lf L) (fun _ => ⟨c, ⟨x, y, d, e⟩⟩) ha.out hb2 (by omega) hL.at (fun _ _ => ⟨h0, h1⟩)).mono ?_
    rintro r w1 ⟨v', rfl, hb1, hown⟩
    have HB := Hid.mk' (bel_next hz.out hb1)
    have HO := Hid.mk' (owns_lower hown (Nat.le_trans hlo hz.out.size))
    clear hb2 hb1 hown ha hz HR
    go_wp2
    go_ret
    exact ⟨_, rfl, HB.out, HO.out⟩
end Go.Proofs.Ytddfpjjeoojlmaa
