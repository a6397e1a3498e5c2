/-
  Sums and differences of two operators.
  More of the program's chapter 3: the number of a monomial, whether operators are the same, whether one has no slopes, so many times an operator.
  More of the program's chapter 3: whether an operator has no slopes, so many times an operator.
-/
import Derived.Test.YtdidlcjhodejjaaGreatSan
import Derived.Test.YtdidlcjhodejjaaGreatSao
import Derived.Test.YtdidlcjhodejjaaGreatSad
import Derived.Deep.RegionHeld3
namespace Go.Proofs.YtdidlcjhodejjaaGreat
open Go.RowKit Go.Maps Go.Sort Go.Shelf
set_option linter.unusedVariables false

theorem SumR.range {w : World} {b n : Nat} {c : M → Int} (h : SumR w b n c) : ∀ m, 0 ≤ c m ∧ c m ≤ 100 := by obtain ⟨D, _, hc, _⟩ := h; exact hc
theorem sumNew (w : World) : SumR (w.alloc (.map #[] 0)) w.heap.size 0 (fun _ => 0) :=
  ⟨.map [], World.ownsMap_made w _ _ _, fun _ => ⟨Int.le_refl _, by show (0 : Int) ≤ 100; decide⟩, fun m _ => ⟨rfl, by simp [Maps.has]⟩, fun kl h => by simp [Maps.has] at h⟩
theorem Rd.apart {w : World} {a : Option Addr} {n cap : Nat} {f : Nat → T} (h : Rd w a n cap f) {b : Nat} (hb : w.heap.size ≤ b) : n = 0 ∨ ∀ b' off, a = some ⟨b', off, none⟩ → some b' ≠ some b := by
  rcases h.2.2 with h0 | ⟨pb, off, rfl, hlt, _⟩
  · exact .inl h0
  · exact .inr (fun b' off' e e' => by cases e; cases e'; omega)
/-- what a sum is told as. -/
def sumL (K : List T) : List T × Bool := if K.length ≤ 400 then (K, true) else ([], false)
theorem sumOpI (w : World) (b n : Nat) (c : M → Int) (h : SumR w b n c) (hn : n ≤ 1000000) {K : List T} (hK : Falls K) (hKc : ∀ m, m.ok = true → coef K m = c m) :
    Calls Tryz.prog 151 #[.map (some b)] w fun e w' => ∃ v, e = .returned (.tuple #[v, .bool (sumL K).2]) ∧ Below w.heap.size w w' ∧ w'.ownsRow w.heap.size 42 5 v (sumL K).1.length (cellsL (sumL K).1) := by
  by_cases h400 : K.length ≤ 400
  · have e : sumL K = (K, true) := if_pos h400
    rw [e]
    exact sumOpOk sortsM w b n c h hn hK hKc h400
  · have e : sumL K = ([], false) := if_neg h400
    rw [e]
    refine (sumOpNo sortsM w b n c h hn hK hKc h400).mono ?_
    rintro r w5 ⟨rfl, hb5⟩
    exact ⟨_, rfl, hb5, owns_nil w5 _⟩
end Go.Proofs.YtdidlcjhodejjaaGreat
namespace Go.Proofs.YtdidlcjhodejjaaGreat
open Go.RowKit
set_option linter.unusedVariables false

theorem polScale_len (c : Int) (f : Nat → T) (n : Nat) : (polScale c f n).length ≤ 400 := by
  unfold polScale; split
  · rename_i h; rw [scT_len]; exact (polOk_c h.2.1).1
  · simp
end Go.Proofs.YtdidlcjhodejjaaGreat
namespace Go.Proofs.YtdidlcjhodejjaaGreat
open Go.RowKit
set_option linter.unusedVariables false

theorem ownsT_nil (w : World) (lo : Nat) : w.ownsRow lo 42 5 (.slice none 0 0) 0 (cellsL []) := ⟨rfl, .inl ⟨rfl, rfl⟩⟩
theorem s5_below {w w' : World} {b : Nat} {v0 v1 v2 v3 v4 : Value} (hb : Below w.heap.size w w') (h : w.cell? ⟨b, 0, none⟩ = some v0 ∧ w.cell? ⟨b, 1, none⟩ = some v1 ∧ w.cell? ⟨b, 2, none⟩ = some v2 ∧ w.cell? ⟨b, 3, none⟩ = some v3 ∧ w.cell? ⟨b, 4, none⟩ = some v4) : w'.cell? ⟨b, 0, none⟩ = some v0 ∧ w'.cell? ⟨b, 1, none⟩ = some v1 ∧ w'.cell? ⟨b, 2, none⟩ = some v2 ∧ w'.cell? ⟨b, 3, none⟩ = some v3 ∧ w'.cell? ⟨b, 4, none⟩ = some v4 := by
  have hl : b < w.heap.size := World.block_lt_of_cell? w _ h.1
  exact ⟨(hb.cell (p := ⟨b, 0, none⟩) hl).trans h.1, (hb.cell (p := ⟨b, 1, none⟩) hl).trans h.2.1, (hb.cell (p := ⟨b, 2, none⟩) hl).trans h.2.2.1, (hb.cell (p := ⟨b, 3, none⟩) hl).trans h.2.2.2.1, (hb.cell (p := ⟨b, 4, none⟩) hl).trans h.2.2.2.2⟩
theorem s5_alloc {w : World} {o : Obj} {b : Nat} {v0 v1 v2 v3 v4 : Value} (h : w.cell? ⟨b, 0, none⟩ = some v0 ∧ w.cell? ⟨b, 1, none⟩ = some v1 ∧ w.cell? ⟨b, 2, none⟩ = some v2 ∧ w.cell? ⟨b, 3, none⟩ = some v3 ∧ w.cell? ⟨b, 4, none⟩ = some v4) : (w.alloc o).cell? ⟨b, 0, none⟩ = some v0 ∧ (w.alloc o).cell? ⟨b, 1, none⟩ = some v1 ∧ (w.alloc o).cell? ⟨b, 2, none⟩ = some v2 ∧ (w.alloc o).cell? ⟨b, 3, none⟩ = some v3 ∧ (w.alloc o).cell? ⟨b, 4, none⟩ = some v4 := s5_below ((Below.refl _ _).alloc (Nat.le_refl _) o) h
theorem s5_drew {w : World} {b : Nat} {v0 v1 v2 v3 v4 : Value} (h : w.cell? ⟨b, 0, none⟩ = some v0 ∧ w.cell? ⟨b, 1, none⟩ = some v1 ∧ w.cell? ⟨b, 2, none⟩ = some v2 ∧ w.cell? ⟨b, 3, none⟩ = some v3 ∧ w.cell? ⟨b, 4, none⟩ = some v4) : w.drew.cell? ⟨b, 0, none⟩ = some v0 ∧ w.drew.cell? ⟨b, 1, none⟩ = some v1 ∧ w.drew.cell? ⟨b, 2, none⟩ = some v2 ∧ w.drew.cell? ⟨b, 3, none⟩ = some v3 ∧ w.drew.cell? ⟨b, 4, none⟩ = some v4 := s5_below (Below.refl _ _).drew h
theorem s5_grown {w w' : World} {row : Option Nat} {b : Nat} {v0 v1 v2 v3 v4 : Value} (hg : w.grownBy w' row) (hne : some b ≠ row) (h : w.cell? ⟨b, 0, none⟩ = some v0 ∧ w.cell? ⟨b, 1, none⟩ = some v1 ∧ w.cell? ⟨b, 2, none⟩ = some v2 ∧ w.cell? ⟨b, 3, none⟩ = some v3 ∧ w.cell? ⟨b, 4, none⟩ = some v4) : w'.cell? ⟨b, 0, none⟩ = some v0 ∧ w'.cell? ⟨b, 1, none⟩ = some v1 ∧ w'.cell? ⟨b, 2, none⟩ = some v2 ∧ w'.cell? ⟨b, 3, none⟩ = some v3 ∧ w'.cell? ⟨b, 4, none⟩ = some v4 := by
  have he := hg.block b (World.block_lt_of_cell? w _ h.1) hne
  exact ⟨(World.cell?_of_block (w := w) (a := ⟨b, 0, none⟩) he).trans h.1, (World.cell?_of_block (w := w) (a := ⟨b, 1, none⟩) he).trans h.2.1, (World.cell?_of_block (w := w) (a := ⟨b, 2, none⟩) he).trans h.2.2.1, (World.cell?_of_block (w := w) (a := ⟨b, 3, none⟩) he).trans h.2.2.2.1, (World.cell?_of_block (w := w) (a := ⟨b, 4, none⟩) he).trans h.2.2.2.2⟩
set_option maxRecDepth 100000 in
set_option maxHeartbeats 8000000 in
theorem polScaleI (w : World) (c : Int) (a : Option Addr) (n cap : Nat) (f : Nat → T) (h : Rd w a n cap f) :
    Calls Tryz.prog 30 #[.int .i64 c, .slice a n cap] w fun r w' => ∃ v, r = .returned v ∧ Below w.heap.size w w' ∧ w'.ownsRow w.heap.size 42 5 v (polScale c f n).length (cellsL (polScale c f n)) := by
  obtain ⟨i0, hi0, hz0, hz1, hz2⟩ := info_parts infoT
  have HR := Hid.mk' h
  by_cases hz : c = 0
  · have e1 : polScale c f n = [] := by simp [polScale, hz]
    rw [e1]
    subst hz
    clear h e1
    go_enter Tryz.func30, Tryz.ntmps30
    go_wp2
    go_ret
    exact ⟨_, rfl, Below.refl _ _, ownsT_nil w _⟩
  · have hcb : (c == 0) = false := by simp [hz]
    by_cases hc : 0 ≤ c ∧ c ≤ 100
    · obtain ⟨c0, c1⟩ := hc
      cases hp : polOk n f
      · have e1 : polScale c f n = [] := by simp [polScale, hp]
        rw [e1]
        clear h e1 hz
        go_enter Tryz.func30, Tryz.ntmps30
        go_wp2_with (go_at_call 71; refine (okI_in _ _ c0 c1).mono ?_; rintro r w' ⟨rfl, hw'⟩; obtain rfl := hw'.symm; clear hw')
        refine (polOkI _ _ _ _ f HR.out).mono ?_
        rw [hp]
        rintro r w1 ⟨rfl, hb⟩
        go_wp2
        go_ret
        exact ⟨_, rfl, hb, ownsT_nil w1 _⟩
      · obtain ⟨l1, c2⟩ := polOk_c hp
        have HC := Hid.mk' c2
        have e1 : polScale c f n = scT c f n := by simp [polScale, hp, c0, c1, hz]
        rw [e1, scT_len]
        obtain ⟨h1, h2, h3⟩ := h
        have hn : (n : Int) ≤ 400 := by omega
        clear e1 hz c2
        go_enter Tryz.func30, Tryz.ntmps30
        go_wp2_with (go_at_call 71; refine (okI_in _ _ c0 c1).mono ?_; rintro r w' ⟨rfl, hw'⟩; obtain rfl := hw'.symm; clear hw')
        refine (polOkI _ _ _ _ f HR.out).mono ?_
        rw [hp]
        rintro r w1 ⟨rfl, hb1⟩
        have HB1 := Hid.mk' hb1
        clear hb1
        go_wp2
        go_loopw [5, 22] (fun v i wr => ∃ k : Nat, k ≤ n ∧ i = .int .i64 k ∧ Below w.heap.size w wr ∧ wr.ownsRow w.heap.size 42 5 v k (cellsL (scT c f k))) (fun _ i _ => n - (intOf i).toNat)
        case atStart => exact ⟨0, Nat.zero_le _, rfl, HB1.out, ownsT_nil w1 _⟩
        case round =>
          obtain ⟨k, hk, rfl, hB, hown⟩ := hrel
          by_cases hlt : k < n
          · rcases h3 with h0 | ⟨b, off, rfl, hblt, hcl⟩
            · omega
            have hkn : (k : Int) < (n : Int) := by omega
            obtain ⟨g0, g1, g2, g3, g4⟩ := (hcl k hlt).below hB hblt
            obtain ⟨cf1, cf2⟩ := HC.out k hlt
            obtain ⟨mb1, mb2⟩ := mul_bd c0 c1 cf1 cf2
            have HO := Hid.mk' hown
            clear hcl hown
            go_wp2_with fail
            have HOQ := Hid.mk' (HO.out.alloc (.cells #[.int .i64 (f k).c, .int .i64 (f k).m.x, .int .i64 (f k).m.y, .int .i64 (f k).m.d, .int .i64 (f k).m.e] 42))
            have HBQ := Hid.mk' (hB.alloc hB.size (.cells #[.int .i64 (f k).c, .int .i64 (f k).m.x, .int .i64 (f k).m.y, .int .i64 (f k).m.d, .int .i64 (f k).m.e] 42))
            have q : ∀ i v, #[Value.int .i64 (f k).c, .int .i64 (f k).m.x, .int .i64 (f k).m.y, .int .i64 (f k).m.d, .int .i64 (f k).m.e][i]? = some v → (wr.alloc (.cells #[.int .i64 (f k).c, .int .i64 (f k).m.x, .int .i64 (f k).m.y, .int .i64 (f k).m.d, .int .i64 (f k).m.e] 42)).cell? ⟨wr.heap.size, i, none⟩ = some v := fun i v hv => by
              rw [World.cell?_alloc_at _ _ _ _ rfl]; exact hv
            have hsz : (wr.alloc (.cells #[.int .i64 (f k).c, .int .i64 (f k).m.x, .int .i64 (f k).m.y, .int .i64 (f k).m.d, .int .i64 (f k).m.e] 42)).heap.size = wr.heap.size + 1 := by simp
            generalize (wr.alloc (.cells #[.int .i64 (f k).c, .int .i64 (f k).m.x, .int .i64 (f k).m.y, .int .i64 (f k).m.d, .int .i64 (f k).m.e] 42)) = wq at HOQ HBQ q hsz ⊢
            have q0 := q 0 _ rfl
            have q1 := q 1 _ rfl
            have q2 := q 2 _ rfl
            have q3 := q 3 _ rfl
            have q4 := q 4 _ rfl
            have hws : w.heap.size ≤ wr.heap.size := hB.size
            have HSZ := Hid.mk' hsz
            clear g0 g1 g2 g3 g4 q hsz
            go_region_held3 (fun u => u.cell? ⟨wr.heap.size, 0, none⟩ = some (.int .i64 (f k).c) ∧ u.cell? ⟨wr.heap.size, 1, none⟩ = some (.int .i64 (f k).m.x) ∧ u.cell? ⟨wr.heap.size, 2, none⟩ = some (.int .i64 (f k).m.y) ∧ u.cell? ⟨wr.heap.size, 3, none⟩ = some (.int .i64 (f k).m.d) ∧ u.cell? ⟨wr.heap.size, 4, none⟩ = some (.int .i64 (f k).m.e)) (first | exact s5_grown hgrow (fun hh => absurd (HO.out.lt _ hh.symm).2 (Nat.lt_irrefl _)) (by assumption) | exact s5_alloc (by assumption) | exact s5_drew (by assumption) | exact ⟨q0, q1, q2, q3, q4⟩) (first | (refine step_append_lies _ (by rfl) (.tmp 26) (.tmp 34) 45 (by rfl) w.heap.size 42 i0 _ 5 40 Tryz.underlying45 hi0 hz0 hz1 hz2 rfl (by omega) _ k (cellsL (scT c f k)) (by rfl) (by first | exact HOQ.out.alloc _ | exact (owns_below HOQ.out (Below.refl _ _).drew).alloc _) ⟨wq.heap.size, 0, none⟩ 1 1 (cellsL [⟨c * (f k).c % 101, (f k).m⟩]) (by rfl) (by rw [cellsL_length]; rfl) (by rw [cellsL_one]; exact World.news_of_block (heap_alloc_new wq _)) (one_cells _) (by omega) (by unfold maxLen; omega) (by omega) (by have := HBQ.out.size; simp; omega) _ (by rfl) ?_; intro g0 cap0 w1 hown1 hgrow hat hlt1) | (go_at_call 72; refine (mulI _ _ _).mono ?_; rw [fMul_in c0 c1 cf1 cf2]; rintro r w2 ⟨rfl, hw2⟩; obtain rfl := hw2.symm; clear hw2))
            have HB := Hid.mk' (((HBQ.out.alloc HBQ.out.size _).drew).grown hgrow (Nat.le_trans HBQ.out.size (by simp)) (fun j hj => (HOQ.out.lt j hj).1))
            have HP := Hid.mk' hown1
            clear hown1 hgrow hat hlt1 HOQ HO
            go_wp2
            go_roundw
            case rel => exact ⟨k + 1, by omega, by go_num, HB.out, by rw [scT_succ, cellsL_append]; exact HP.out⟩
            case measure => simp [intOf]; omega
          · have hkn : k = n := by omega
            subst hkn
            have HO := Hid.mk' hown
            clear hown
            go_wp2
            go_ret
            exact ⟨_, rfl, hB, HO.out⟩
    · have e1 : polScale c f n = [] := by simp [polScale, hc]
      rw [e1]
      have hc' : c < 0 ∨ 100 < c := by omega
      clear hc e1 hz h
      go_enter Tryz.func30, Tryz.ntmps30
      go_wp2_with (go_at_call 71; refine (okI_out _ _ hc').mono ?_; rintro r w' ⟨rfl, rfl⟩)
      go_ret
      exact ⟨_, rfl, Below.refl _ _, ownsT_nil _ _⟩
end Go.Proofs.YtdidlcjhodejjaaGreat
