/-
  The laws' own look whether operators are the same.
  A term put into a sum, in the model.
  What the drawing functions return: the reader's pick is a number below its bound, and writes the reader's place alone; what is drawn is some number that fits its kind.
-/
import Derived.Test.YtnfgiplgkobnlaaGreatDoorGaf
import Derived.Test.YtnfgiplgkobnlaaGreatDoorGae
import Derived.Test.YtnfgiplgkobnlaaGreatDoorGab
import Derived.Test.YtnfgiplgkobnlaaGreatDoorRows
import Derived.WalkKit
import Derived.Deep.QuietTactic
import Derived.BigQuiet
import Derived.Deep.RegionWith
import Derived.WalkSmall
namespace Go.Proofs.YtnfgiplgkobnlaaGreatDoor
open Go.RowKit
set_option linter.unusedVariables false

set_option maxRecDepth 100000 in
set_option maxHeartbeats 4000000 in
theorem heSameT (w : World) (a a' : Option Addr) (n cap n' cap' : Nat) (f f' : Nat → T) (h : Rd w a n cap f) (h' : Rd w a' n' cap' f') :
    Calls Tryz.prog 11 #[.slice a n cap, .slice a' n' cap'] w fun r w' => r = .returned (.bool (termsEq n f n' f')) ∧ Below w.heap.size w w' := by
  obtain ⟨h1, h2, h3⟩ := h
  obtain ⟨h1', h2', h3'⟩ := h'
  have hn : (n : Int) ≤ 140737488351232 := by omega
  have hn' : (n' : Int) ≤ 140737488351232 := by omega
  by_cases hnn : n = n'
  · subst hnn
    go_enter Tryz.func11, Tryz.ntmps11
    go_wp2
    go_loopw [5] (fun i wr => ∃ (k : Nat), k ≤ n ∧ i = .int .i64 k ∧ Below w.heap.size w wr ∧ Hid (∀ j, j < k → (f j).eqB (f' j) = true)) (fun i _ => n - (intOf i).toNat)
    case atStart => exact ⟨0, Nat.zero_le _, rfl, Below.refl _ _, fun j hj => absurd hj (Nat.not_lt_zero _)⟩
    case round =>
      obtain ⟨k, hk, rfl, hB, hok⟩ := hrel
      by_cases hlt : k < n
      · rcases h3 with h0 | ⟨b, off, rfl, hblt, hcl⟩
        · omega
        rcases h3' with h0 | ⟨b', off', rfl, hblt', hcl'⟩
        · omega
        have hkn : (k : Int) < (n : Int) := by omega
        obtain ⟨g0, g1, g2, g3, g4⟩ := (hcl k hlt).below hB hblt
        obtain ⟨p0, p1, p2, p3, p4⟩ := (hcl' k hlt).below hB hblt'
        clear hcl hcl'
        by_cases hc : (f k).c = (f' k).c
        · skip
          by_cases hx : (f k).m.x = (f' k).m.x
          · skip
            by_cases hy : (f k).m.y = (f' k).m.y
            · skip
              by_cases hd : (f k).m.d = (f' k).m.d
              · skip
                by_cases he : (f k).m.e = (f' k).m.e
                · skip
                  have HN : Hid (∀ j, j < k + 1 → (f j).eqB (f' j) = true) := fun j hj => by
                    by_cases hjk : j = k
                    · rw [hjk]; simp [T.eqB, M.eqB, hc, hx, hy, hd, he]
                    · exact hok.out j (by omega)
                  clear hok
                  go_wp2_with fail
                  go_quiet (fail)
                  go_wp2
                  go_roundw
                  case rel => exact ⟨k + 1, by omega, by go_num, below_drewN hB _, HN⟩
                  case measure => simp [intOf]; omega
                · skip
                  have HN : Hid (termsEq n f n f' = false) := by
                    show _ = _
                    simp only [termsEq, decide_eq_false_iff_not]
                    intro hh
                    have := hh.2 k hlt
                    simp [T.eqB, M.eqB, he] at this
                  clear hok
                  go_wp2_with fail
                  go_quiet (fail)
                  go_wp2
                  go_ret
                  exact ⟨by rw [HN.out]; rfl, below_drewN hB _⟩
              · skip
                have HN : Hid (termsEq n f n f' = false) := by
                  show _ = _
                  simp only [termsEq, decide_eq_false_iff_not]
                  intro hh
                  have := hh.2 k hlt
                  simp [T.eqB, M.eqB, hd] at this
                clear hok
                go_wp2_with fail
                go_quiet (fail)
                go_wp2
                go_ret
                exact ⟨by rw [HN.out]; rfl, below_drewN hB _⟩
            · skip
              have HN : Hid (termsEq n f n f' = false) := by
                show _ = _
                simp only [termsEq, decide_eq_false_iff_not]
                intro hh
                have := hh.2 k hlt
                simp [T.eqB, M.eqB, hy] at this
              clear hok
              go_wp2_with fail
              go_quiet (fail)
              go_wp2
              go_ret
              exact ⟨by rw [HN.out]; rfl, below_drewN hB _⟩
          · skip
            have HN : Hid (termsEq n f n f' = false) := by
              show _ = _
              simp only [termsEq, decide_eq_false_iff_not]
              intro hh
              have := hh.2 k hlt
              simp [T.eqB, M.eqB, hx] at this
            clear hok
            go_wp2_with fail
            go_quiet (fail)
            go_wp2
            go_ret
            exact ⟨by rw [HN.out]; rfl, below_drewN hB _⟩
        · skip
          have HN : Hid (termsEq n f n f' = false) := by
            show _ = _
            simp only [termsEq, decide_eq_false_iff_not]
            intro hh
            have := hh.2 k hlt
            simp [T.eqB, M.eqB, hc] at this
          clear hok
          go_wp2_with fail
          go_quiet (fail)
          go_wp2
          go_ret
          exact ⟨by rw [HN.out]; rfl, below_drewN hB _⟩
      · have HP : Hid (termsEq n f n f' = true) := by
          show _ = _
          simp only [termsEq, decide_eq_true_eq]
          exact ⟨trivial, fun i hi => hok.out i (by omega)⟩
        clear hok
        go_wp2
        go_ret
        exact ⟨by rw [HP.out]; rfl, hB⟩
  · have hp : termsEq n f n' f' = false := by
      simp only [termsEq, decide_eq_false_iff_not]
      exact fun h => hnn h.1
    rw [hp]
    have hb : ((n : Int) != (n' : Int)) = true := by simp; omega
    clear hp
    go_enter Tryz.func11, Tryz.ntmps11
    go_wp2
    go_ret
    exact ⟨rfl, Below.refl _ _⟩
end Go.Proofs.YtnfgiplgkobnlaaGreatDoor
namespace Go.Proofs.YtnfgiplgkobnlaaGreatDoor
open Go.RowKit
set_option linter.unusedVariables false

def putT (c : Int) (m : M) (L : List T) : List T := if c = 0 then L else addT (lf L) L.length (fun _ => ⟨c, m⟩) 1 0 0
/-- all numbers are of the field. -/
def Cok (L : List T) : Prop := ∀ t ∈ L, 0 ≤ t.c ∧ t.c ≤ 100
theorem cok_nil : Cok [] := fun t ht => by simp at ht
theorem lf_mem {L : List T} {i : Nat} (h : i < L.length) : lf L i ∈ L := by
  unfold lf
  rw [List.getD_eq_getElem?_getD, List.getElem?_eq_getElem h]
  exact List.getElem_mem h
theorem Cok.at {L : List T} (h : Cok L) : ∀ i, i < L.length → 0 ≤ (lf L i).c ∧ (lf L i).c ≤ 100 := fun i hi => h _ (lf_mem hi)
theorem addI_c {f : Nat → T} {la : Nat} {g : Nat → T} {lb : Nat} (hf : ∀ i, i < la → 0 ≤ (f i).c ∧ (f i).c ≤ 100) (hg : ∀ i, i < lb → 0 ≤ (g i).c ∧ (g i).c ≤ 100) : ∀ (u i k : Nat), Cok (mrgI f la g lb u i k)
  | 0, _, _ => by intro t ht; simp [mrgI] at ht
  | u + 1, i, k => by
    have a1 := addI_c hf hg u (i + 1) k
    have a2 := addI_c hf hg u i (k + 1)
    have a3 := addI_c hf hg u (i + 1) (k + 1)
    intro t ht
    simp only [mrgI] at ht
    split at ht
    · rename_i hh
      split at ht
      · rcases List.mem_cons.1 ht with rfl | ht
        · exact hf i hh.1
        · exact a1 t ht
      · split at ht
        · rcases List.mem_cons.1 ht with rfl | ht
          · exact hg k hh.2
          · exact a2 t ht
        · split at ht
          · rcases List.mem_cons.1 ht with rfl | ht
            · dsimp only; omega
            · exact a3 t ht
          · exact a3 t ht
    · split at ht
      · rename_i hh
        rcases List.mem_cons.1 ht with rfl | ht
        · exact hf i hh
        · exact a1 t ht
      · split at ht
        · rename_i hh
          rcases List.mem_cons.1 ht with rfl | ht
          · exact hg k hh
          · exact a2 t ht
        · cases ht
theorem putT_c {c : Int} {m : M} {L : List T} (hL : Cok L) (h0 : 0 ≤ c) (h1 : c ≤ 100) : Cok (putT c m L) := by
  unfold putT
  split
  · exact hL
  · exact addI_c hL.at (fun _ _ => ⟨h0, h1⟩) _ _ _
theorem putT_len (c : Int) (m : M) (L : List T) : (putT c m L).length ≤ L.length + 1 := by
  unfold putT
  split
  · omega
  · have := addT_len (lf L) L.length (fun _ => ⟨c, m⟩) 1 0 0
    omega
theorem rd_one (w : World) (t : T) : Rd (w.alloc (.cells #[.int .i64 t.c, .int .i64 t.m.x, .int .i64 t.m.y, .int .i64 t.m.d, .int .i64 t.m.e] 45)) (some ⟨w.heap.size, 0, none⟩) 1 1 (fun _ => t) := by
  refine ⟨Nat.le_refl _, by omega, .inr ⟨w.heap.size, 0, rfl, by simp, fun i hi => ?_⟩⟩
  obtain rfl : i = 0 := by omega
  exact ⟨by rw [World.cell?_alloc_at _ _ _ _ rfl]; rfl, by rw [World.cell?_alloc_at _ _ _ _ rfl]; rfl, by rw [World.cell?_alloc_at _ _ _ _ rfl]; rfl, by rw [World.cell?_alloc_at _ _ _ _ rfl]; rfl, by rw [World.cell?_alloc_at _ _ _ _ rfl]; rfl⟩
set_option maxRecDepth 100000 in
set_option maxHeartbeats 2000000 in
theorem l4PutS (w : World) (lo : Nat) (v : Value) (L : List T) (c x y d e : Int) (ho : w.ownsRow lo 45 5 v L.length (cellsL L)) (hlo : lo ≤ w.heap.size) (hl : L.length ≤ 1000) (hL : Cok L) (h0 : 0 ≤ c) (h1 : c ≤ 100) :
    Calls Tryz.prog 48 #[v, .int .i64 c, .agg #[.int .i64 x, .int .i64 y, .int .i64 d, .int .i64 e]] w fun r w' => ∃ v', r = .returned v' ∧ Below w.heap.size w w' ∧ w'.ownsRow lo 45 5 v' (putT c ⟨x, y, d, e⟩ L).length (cellsL (putT c ⟨x, y, d, e⟩ L)) := by
  by_cases hc : c = 0
  · subst hc
    have e1 : putT 0 ⟨x, y, d, e⟩ L = L := by simp [putT]
    rw [e1]
    have HO := Hid.mk' (owns_below ho (bel_one w (.cells #[.int .i64 x, .int .i64 y, .int .i64 d, .int .i64 e] 38)))
    clear ho e1
    go_enter Tryz.func48, Tryz.ntmps48
    go_wp2
    go_ret
    exact ⟨_, rfl, bel_one w _, HO.out⟩
  · have hcb : (c == 0) = false := by simp [hc]
    have e1 : putT c ⟨x, y, d, e⟩ L = addT (lf L) L.length (fun _ => ⟨c, ⟨x, y, d, e⟩⟩) 1 0 0 := by simp [putT, hc]
    rw [e1]
    obtain ⟨a, cap, rfl, hout⟩ := out_of_owns ho (by omega)
    have HR := Hid.mk' hout.1
    clear ho hout hc e1
    go_enter Tryz.func48, Tryz.ntmps48
    go_wp2_with fail
    have ha := Hid.mk' ((HR.out.below (bel_one w (.cells #[.int .i64 x, .int .i64 y, .int .i64 d, .int .i64 e] 38))).below (bel_one _ (.cells #[.int .i64 c, .int .i64 x, .int .i64 y, .int .i64 d, .int .i64 e] 45)))
    have hb := rd_one (w.alloc (.cells #[.int .i64 x, .int .i64 y, .int .i64 d, .int .i64 e] 38)) ⟨c, ⟨x, y, d, e⟩⟩
    have hb2 : Rd ((w.alloc (.cells #[.int .i64 x, .int .i64 y, .int .i64 d, .int .i64 e] 38)).alloc (.cells #[.int .i64 c, .int .i64 x, .int .i64 y, .int .i64 d, .int .i64 e] 45)) (some ⟨w.heap.size + 1, 0, none⟩) 1 1 (fun _ => ⟨c, ⟨x, y, d, e⟩⟩) := by simpa using hb
    have hz := Hid.mk' (bel_next (bel_one w (.cells #[.int .i64 x, .int .i64 y, .int .i64 d, .int .i64 e] 38)) (bel_one _ (.cells #[.int .i64 c, .int .i64 x, .int .i64 y, .int .i64 d, .int .i64 e] 45)))
    clear hb
    generalize ((w.alloc (.cells #[.int .i64 x, .int .i64 y, .int .i64 d, .int .i64 e] 38)).alloc (.cells #[.int .i64 c, .int .i64 x, .int .i64 y, .int .i64 d, .int .i64 e] 45)) = W at ha hb2 hz ⊢
    refine (l3AddS _ _ _ _ _ _ _ (lf L) (fun _ => ⟨c, ⟨x, y, d, e⟩⟩) ha.out hb2 (by omega) hL.at (fun _ _ => ⟨h0, h1⟩)).mono ?_
    rintro r w1 ⟨v', rfl, hb1, hown⟩
    have HB := Hid.mk' (bel_next hz.out hb1)
    have HO := Hid.mk' (owns_lower hown (Nat.le_trans hlo hz.out.size))
    clear hb2 hb1 hown ha hz HR
    go_wp2
    go_ret
    exact ⟨_, rfl, HB.out, HO.out⟩
end Go.Proofs.YtnfgiplgkobnlaaGreatDoor
namespace Go.Proofs.YtnfgiplgkobnlaaGreatDoor
open Go.RowKit
set_option linter.unusedVariables false

theorem xor_nn (x y : Int) (hx : 0 ≤ x) (hx' : x < 1099511627776) (hy : 0 ≤ y) (hy' : y < 1099511627776) : 0 ≤ bits .xor .i64 x y := by
  obtain ⟨a, rfl⟩ := Int.eq_ofNat_of_zero_le hx
  obtain ⟨b, rfl⟩ := Int.eq_ofNat_of_zero_le hy
  have hab : a ^^^ b < 2 ^ 40 := Nat.xor_lt_two_pow (by omega) (by omega)
  have h1 : (BitVec.ofInt 64 (a : Int)).toNat = a := by
    rw [BitVec.ofInt_natCast, BitVec.toNat_ofNat]; exact Nat.mod_eq_of_lt (by omega)
  have h2 : (BitVec.ofInt 64 (b : Int)).toNat = b := by
    rw [BitVec.ofInt_natCast, BitVec.toNat_ofNat]; exact Nat.mod_eq_of_lt (by omega)
  show 0 ≤ IntKind.i64.wrap ((BitVec.ofInt 64 (a : Int) ^^^ BitVec.ofInt 64 (b : Int)).toNat : Int)
  rw [BitVec.toNat_xor, h1, h2]
  simp only [IntKind.wrap, IntKind.bits, IntKind.signed]
  generalize a ^^^ b = c at hab
  have hc : (c : Int) < 1099511627776 := by omega
  simp
  omega
theorem tmod_bd {x n : Int} (hx : 0 ≤ x) (hn : 1 ≤ n) : 0 ≤ x.tmod n ∧ x.tmod n < n := by
  rw [Int.tmod_eq_emod_of_nonneg hx]
  exact ⟨Int.emod_nonneg _ (by omega), Int.emod_lt_of_pos _ (by omega)⟩

set_option maxHeartbeats 1000000 in
theorem pick_in (w : World) (B bb off len cap p : Nat) (n : Int) (z : Nat → Int)
    (hc0 : w.cell? ⟨B, 0, none⟩ = some (.slice (some ⟨bb, off, none⟩) len cap))
    (hc1 : w.cell? ⟨B, 1, none⟩ = some (.int .i64 p))
    (hf : w.frozen? ⟨B, 1, none⟩ = false)
    (hbb : bb < B) (hz : ∀ i, i < len → w.cell? ⟨bb, off + i, none⟩ = some (.int .u8 (z i)))
    (hz0 : ∀ i, 0 ≤ z i) (hz1 : ∀ i, z i ≤ 255)
    (hl : len ≤ 2000) (hn : 1 ≤ n) (hn' : n ≤ 100000) (hp : p < len) :
    Calls Tryz.prog 33 #[.pointer (some ⟨B, 0, none⟩), .int .i64 n] w fun e w' => ∃ v, e = .returned (.int .i64 v) ∧ 0 ≤ v ∧ v < n ∧ ∃ nq, w' = (w.setCell ⟨B, 1, none⟩ (.int .i64 (p + 1))).drewN nq := by
  have hne : ¬ bb = B := by omega
  have hl0 : ((len : Int) == 0) = false := by simp; omega
  have hpl : (p : Int) < (len : Int) := by omega
  have hcp := hz p hp
  have z0 := hz0 p
  have z1 := hz1 p
  have hm0 := Int.emod_nonneg (z p) (show n ≠ 0 by omega)
  have hm1 := Int.emod_lt_of_pos (z p) (show 0 < n by omega)
  clear hz hz0 hz1
  go_enter Tryz.func33, Tryz.ntmps33
  go_wp2
  go_ret
  exact ⟨_, rfl, hm0, hm1, 0, rfl⟩
set_option maxHeartbeats 1000000 in
theorem pick_none (w : World) (B cap p : Nat) (a : Option Addr) (n : Int)
    (hc0 : w.cell? ⟨B, 0, none⟩ = some (.slice a 0 cap))
    (hc1 : w.cell? ⟨B, 1, none⟩ = some (.int .i64 p))
    (hf : w.frozen? ⟨B, 1, none⟩ = false) (hn : 1 ≤ n) (hp : (p : Int) ≤ 100000) :
    Calls Tryz.prog 33 #[.pointer (some ⟨B, 0, none⟩), .int .i64 n] w fun e w' => ∃ v, e = .returned (.int .i64 v) ∧ 0 ≤ v ∧ v < n ∧ ∃ nq, w' = (w.setCell ⟨B, 1, none⟩ (.int .i64 (p + 1))).drewN nq := by
  go_enter Tryz.func33, Tryz.ntmps33
  go_wp2
  go_ret
  exact ⟨_, rfl, by omega, by omega, 0, rfl⟩

set_option maxHeartbeats 1000000 in
theorem pick_past (w : World) (B bb off len cap p : Nat) (n : Int) (z : Nat → Int)
    (hc0 : w.cell? ⟨B, 0, none⟩ = some (.slice (some ⟨bb, off, none⟩) len cap))
    (hc1 : w.cell? ⟨B, 1, none⟩ = some (.int .i64 p))
    (hf : w.frozen? ⟨B, 1, none⟩ = false)
    (hbb : bb < B) (hz : ∀ i, i < len → w.cell? ⟨bb, off + i, none⟩ = some (.int .u8 (z i)))
    (hz0 : ∀ i, 0 ≤ z i) (hz1 : ∀ i, z i ≤ 255)
    (hl : len ≤ 2000) (hn : 1 ≤ n) (hn' : n ≤ 100000) (hp : len ≤ p) (h0 : 0 < len) (hp' : (p : Int) ≤ 100000) :
    Calls Tryz.prog 33 #[.pointer (some ⟨B, 0, none⟩), .int .i64 n] w fun e w' => ∃ v, e = .returned (.int .i64 v) ∧ 0 ≤ v ∧ v < n ∧ ∃ nq, w' = (w.setCell ⟨B, 1, none⟩ (.int .i64 (p + 1))).drewN nq := by
  have hne : ¬ bb = B := by omega
  have hl0 : ((len : Int) == 0) = false := by simp; omega
  have hlp : (0 : Int) < (len : Int) := by omega
  have hl2 : (len : Int) ≤ 2000 := by omega
  have hpl : (len : Int) ≤ (p : Int) := by omega
  have i1 := Int.emod_nonneg (p : Int) (show (len : Int) ≠ 0 by omega)
  have i2 := Int.emod_lt_of_pos (p : Int) hlp
  have j1 := Int.emod_nonneg ((p : Int) * 7 + 3) (show (len : Int) ≠ 0 by omega)
  have j2 := Int.emod_lt_of_pos ((p : Int) * 7 + 3) hlp
  have q1 : 0 ≤ (p : Int) / (len : Int) := Int.ediv_nonneg (by omega) (by omega)
  have q2 : (p : Int) / (len : Int) ≤ 100000 := Int.le_trans (Int.ediv_le_self _ (by omega)) hp'
  have hci := hz (p % len) (Nat.mod_lt _ h0)
  have hcj := hz ((p * 7 + 3) % len) (Nat.mod_lt _ h0)
  have zi0 := hz0 (p % len)
  have zi1 := hz1 (p % len)
  have zj0 := hz0 ((p * 7 + 3) % len)
  have zj1 := hz1 ((p * 7 + 3) % len)
  clear hz hz0 hz1
  go_enter Tryz.func33, Tryz.ntmps33
  go_wp2
  go_quiet (fail)
  go_wp2
  go_ret
  exact ⟨_, rfl, (tmod_bd (xor_nn _ _ (by omega) (by omega) (by omega) (by omega)) hn).1, (tmod_bd (xor_nn _ _ (by omega) (by omega) (by omega) (by omega)) hn).2, _, rfl⟩

/-- The reader at block B stands at place p over some bytes that lie below B; its place may be written. -/
def Rdr (w : World) (B p : Nat) : Prop :=
  w.cell? ⟨B, 1, none⟩ = some (.int .i64 p) ∧ w.frozen? ⟨B, 1, none⟩ = false ∧
  ∃ (a : Option Addr) (len cap : Nat), w.cell? ⟨B, 0, none⟩ = some (.slice a len cap) ∧ len ≤ 2000 ∧
    (len = 0 ∨ ∃ (bb off : Nat) (z : Nat → Int), a = some ⟨bb, off, none⟩ ∧ bb < B ∧ (∀ i, i < len → w.cell? ⟨bb, off + i, none⟩ = some (.int .u8 (z i))) ∧ (∀ i, 0 ≤ z i) ∧ ∀ i, z i ≤ 255)
/-- What a pick does to the world: the reader's place goes on by one. -/
def Picked (w w' : World) (B p : Nat) : Prop := ∃ nq, w' = (w.setCell ⟨B, 1, none⟩ (.int .i64 ((p + 1 : Nat) : Int))).drewN nq
theorem pick_any (w : World) (B p : Nat) (n : Int) (h : Rdr w B p) (hn : 1 ≤ n) (hn' : n ≤ 100000) (hp : (p : Int) ≤ 100000) :
    Calls Tryz.prog 33 #[.pointer (some ⟨B, 0, none⟩), .int .i64 n] w fun e w' => ∃ v, e = .returned (.int .i64 v) ∧ 0 ≤ v ∧ v < n ∧ Picked w w' B p := by
  obtain ⟨hc1, hf, a, len, cap, hc0, hl, h0⟩ := h
  have key : ∀ e w', (∃ v, e = Ending.returned (.int .i64 v) ∧ 0 ≤ v ∧ v < n ∧ ∃ nq, w' = (w.setCell ⟨B, 1, none⟩ (.int .i64 (p + 1))).drewN nq) → ∃ v, e = .returned (.int .i64 v) ∧ 0 ≤ v ∧ v < n ∧ Picked w w' B p := by
    rintro e w' ⟨v, h1, h2, h3, nq, h4⟩
    exact ⟨v, h1, h2, h3, nq, by rw [h4]; rfl⟩
  by_cases hz : len = 0
  · subst hz
    exact (pick_none w B cap p a n hc0 hc1 hf hn hp).mono key
  · obtain ⟨bb, off, z, rfl, hbb, hb, z0, z1⟩ := h0.resolve_left hz
    by_cases hpl : p < len
    · exact (pick_in w B bb off len cap p n z hc0 hc1 hf hbb hb z0 z1 hl hn hn' hpl).mono key
    · exact (pick_past w B bb off len cap p n z hc0 hc1 hf hbb hb z0 z1 hl hn hn' (by omega) (by omega) hp).mono key

/-- All blocks but B are as they were; the streams too. -/
structure Beside (B : Nat) (w w' : World) : Prop where
  os : w'.os = w.os
  tape : w'.tape = w.tape
  output : w'.output = w.output
  size : w.heap.size ≤ w'.heap.size
  block : ∀ k, k < w.heap.size → k ≠ B → w'.heap[k]? = w.heap[k]?
theorem Beside.refl (B : Nat) (w : World) : Beside B w w := ⟨rfl, rfl, rfl, Nat.le_refl _, fun _ _ _ => rfl⟩
theorem Beside.trans {B : Nat} {a b c : World} (h : Beside B a b) (k : Beside B b c) : Beside B a c :=
  ⟨k.os.trans h.os, k.tape.trans h.tape, k.output.trans h.output, Nat.le_trans h.size k.size, fun i hi hn => (k.block i (Nat.lt_of_lt_of_le hi h.size) hn).trans (h.block i hi hn)⟩
theorem Beside.alloc {B : Nat} {a w : World} (h : Beside B a w) (o : Obj) : Beside B a (w.alloc o) :=
  h.trans ⟨rfl, rfl, rfl, by simp, fun k hk _ => Below.heap_alloc _ _ _ hk⟩
theorem Beside.drewN {B : Nat} {a w : World} (h : Beside B a w) (n : Nat) : Beside B a (w.drewN n) := h.trans ⟨rfl, rfl, rfl, Nat.le_refl _, fun _ _ _ => rfl⟩
theorem Beside.cell {B : Nat} {w w' : World} (h : Beside B w w') {b o : Nat} (hb : b < w.heap.size) (hn : b ≠ B) : w'.cell? ⟨b, o, none⟩ = w.cell? ⟨b, o, none⟩ :=
  World.cell?_of_block (w := w) (h.block b hb hn)
theorem Beside.below {B n : Nat} {a w w' : World} (k : Below n a w) (h : Beside B w w') (hB : n ≤ B) (hn : n ≤ w.heap.size) : Below n a w' :=
  k.trans ⟨h.os, h.tape, h.output, h.size, fun k hk => h.block k (by omega) (by omega)⟩
theorem Picked.beside {w w' : World} {B p : Nat} (h : Picked w w' B p) : Beside B w w' := by
  obtain ⟨nq, rfl⟩ := h
  have h : Beside B w (w.setCell ⟨B, 1, none⟩ (.int .i64 ((p + 1 : Nat) : Int))) := ⟨rfl, rfl, rfl, by simp [World.setCell], fun k _ hk => Below.heap_setCell _ _ _ _ hk⟩
  exact h.drewN nq
theorem Rdr.lt {w : World} {B p : Nat} (h : Rdr w B p) : B < w.heap.size := World.block_lt_of_cell? w _ h.1
theorem Picked.rdr {w w' : World} {B p : Nat} (hp : Picked w w' B p) (h : Rdr w B p) : Rdr w' B (p + 1) := by
  have hb := hp.beside
  have hlt := h.lt
  obtain ⟨nq, rfl⟩ := hp
  obtain ⟨hc1, hf, a, len, cap, hc0, hl, h0⟩ := h
  refine ⟨by go_simp, by go_simp, a, len, cap, by go_simp, hl, ?_⟩
  rcases h0 with h0 | ⟨bb, off, z, rfl, hbb, hz, z0, z1⟩
  · exact .inl h0
  · exact .inr ⟨bb, off, z, rfl, hbb, fun i hi => by rw [hb.cell (by omega) (by omega)]; exact hz i hi, z0, z1⟩
theorem Rdr.alloc {w : World} {B p : Nat} (h : Rdr w B p) (o : Obj) : Rdr (w.alloc o) B p := by
  have hlt := h.lt
  obtain ⟨hc1, hf, a, len, cap, hc0, hl, h0⟩ := h
  refine ⟨by rw [World.cell?_alloc_past o B 1 hlt]; exact hc1, by rw [World.frozen?_alloc_past o B 1 hlt]; exact hf, a, len, cap, by rw [World.cell?_alloc_past o B 0 hlt]; exact hc0, hl, ?_⟩
  rcases h0 with h0 | ⟨bb, off, z, rfl, hbb, hz, z0, z1⟩
  · exact .inl h0
  · exact .inr ⟨bb, off, z, rfl, hbb, fun i hi => by rw [World.cell?_alloc_past o bb _ (by omega)]; exact hz i hi, z0, z1⟩
theorem Rdr.drewN {w : World} {B p : Nat} (h : Rdr w B p) (n : Nat) : Rdr (w.drewN n) B p := h


/-- A slice of bytes that came in: empty, or its bytes lie in a block that is there. -/
def Src (w : World) (a : Option Addr) (len cap : Nat) : Prop :=
  len ≤ cap ∧ cap ≤ maxLen ∧ (len = 0 ∨ ∃ (bb off : Nat) (z : Nat → Int), a = some ⟨bb, off, none⟩ ∧ bb < w.heap.size ∧ (∀ i, i < len → w.cell? ⟨bb, off + i, none⟩ = some (.int .u8 (z i))) ∧ (∀ i, 0 ≤ z i) ∧ ∀ i, z i ≤ 255)
theorem Src.below {w w' : World} {a : Option Addr} {len cap : Nat} (h : Src w a len cap) (hb : Below w.heap.size w w') : Src w' a len cap := by
  obtain ⟨h1, h2, h3⟩ := h
  refine ⟨h1, h2, ?_⟩
  rcases h3 with h0 | ⟨bb, off, z, rfl, hbb, hz, z0, z1⟩
  · exact .inl h0
  · exact .inr ⟨bb, off, z, rfl, Nat.lt_of_lt_of_le hbb hb.size, fun i hi => by rw [hb.cell (p := ⟨bb, off + i, none⟩) hbb]; exact hz i hi, z0, z1⟩

/-- A reader in a new block. -/
theorem rdr_new (w : World) (a : Option Addr) (len cap : Nat) (t : TypeId) (hl : len ≤ 2000)
    (h : len = 0 ∨ ∃ (bb off : Nat) (z : Nat → Int), a = some ⟨bb, off, none⟩ ∧ bb < w.heap.size ∧ (∀ i, i < len → w.cell? ⟨bb, off + i, none⟩ = some (.int .u8 (z i))) ∧ (∀ i, 0 ≤ z i) ∧ ∀ i, z i ≤ 255) :
    Rdr (w.alloc (.cells #[.slice a len cap, .int .i64 0] t)) w.heap.size 0 := by
  refine ⟨by rw [World.cell?_alloc_at _ _ _ _ rfl]; rfl, by rw [World.frozen?_alloc_at _ _ _ _ rfl], a, len, cap, by rw [World.cell?_alloc_at _ _ _ _ rfl]; rfl, hl, ?_⟩
  rcases h with h0 | ⟨bb, off, z, rfl, hbb, hz, z0, z1⟩
  · exact .inl h0
  · exact .inr ⟨bb, off, z, rfl, hbb, fun i hi => by rw [World.cell?_alloc_past _ bb _ hbb]; exact hz i hi, z0, z1⟩
theorem open_any (w : World) (a : Option Addr) (len cap : Nat) (h : Src w a len cap) :
    Calls Tryz.prog 20 #[.slice a len cap] w fun e w' => e = .returned (.pointer (some ⟨w.heap.size, 0, none⟩)) ∧ Rdr w' w.heap.size 0 ∧ Below w.heap.size w w' := by
  obtain ⟨h1, h2, h3⟩ := h
  unfold maxLen at h2
  by_cases hl : len ≤ 2000
  · have hl' : (len : Int) ≤ 2000 := by omega
    go_enter Tryz.func20, Tryz.ntmps20
    go_wp2
    go_ret
    exact ⟨rfl, rdr_new w a len cap _ hl h3, (Below.refl _ _).alloc (Nat.le_refl _) _⟩
  · have hl' : (2000 : Int) < (len : Int) := by omega
    have hc' : (2000 : Int) ≤ (cap : Int) := by omega
    rcases h3 with h0 | ⟨bb, off, z, rfl, hbb, hz, z0, z1⟩
    · omega
    · have hn := rdr_new w (some ⟨bb, off, none⟩) 2000 cap 71 (Nat.le_refl _) (.inr ⟨bb, off, z, rfl, hbb, fun i hi => hz i (by omega), z0, z1⟩)
      clear hz z0 z1
      go_enter Tryz.func20, Tryz.ntmps20
      go_wp2
      go_ret
      exact ⟨rfl, hn, (Below.refl _ _).alloc (Nat.le_refl _) _⟩

/-- The reader that a draw over the world w0 has made, and nothing of w0 has turned. -/
def RB (w0 W : World) (p : Nat) : Prop := Rdr W w0.heap.size p ∧ Below w0.heap.size w0 W
theorem RB.alloc {w0 W : World} {p : Nat} (h : RB w0 W p) (o : Obj) : RB w0 (W.alloc o) p := ⟨h.1.alloc o, h.2.alloc h.2.size o⟩
theorem RB.drewN {w0 W : World} {p : Nat} (h : RB w0 W p) (n : Nat) : RB w0 (W.drewN n) p := ⟨h.1, below_drewN h.2 n⟩
theorem RB.drew {w0 W : World} {p : Nat} (h : RB w0 W p) : RB w0 W.drew p := h.drewN 1
theorem RB.lt {w0 W : World} {p : Nat} (h : RB w0 W p) : w0.heap.size < W.heap.size := h.1.lt
theorem pick_rb (w0 W : World) (p : Nat) (n : Int) (h : RB w0 W p) (hn : 1 ≤ n) (hn' : n ≤ 100000) (hp : (p : Int) ≤ 100000) :
    Calls Tryz.prog 33 #[.pointer (some ⟨w0.heap.size, 0, none⟩), .int .i64 n] W fun e w' => ∃ v, e = .returned (.int .i64 v) ∧ 0 ≤ v ∧ v < n ∧ RB w0 w' (p + 1) ∧ (∀ b o, b < W.heap.size → ¬ b = w0.heap.size → w'.cell? ⟨b, o, none⟩ = W.cell? ⟨b, o, none⟩) ∧ W.heap.size ≤ w'.heap.size ∧ ¬ w'.heap.size = w0.heap.size := by
  refine (pick_any W w0.heap.size p n h.1 hn hn' hp).mono ?_
  rintro e w' ⟨v, h1, h2, h3, k⟩
  have r := k.rdr h.1
  have s := k.beside
  have l := r.lt
  exact ⟨v, h1, h2, h3, ⟨r, s.below h.2 (Nat.le_refl _) h.2.size⟩, fun b o hb hn => s.cell hb hn, s.size, by omega⟩

end Go.Proofs.YtnfgiplgkobnlaaGreatDoor
