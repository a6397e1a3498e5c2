/-
  The draws of FnMonText: some monomial, and some text of at most a thousand bytes.
-/
import Derived.Test.YtnfgiplgkobnlaaDoorDrawMon2
import Derived.Test.YtnfgiplgkobnlaaDoorBent
import Derived.Test.YtnfgiplgkobnlaaDoorTxS
import Derived.Test.YtnfgiplgkobnlaaDoorPxA
namespace Go.Proofs.YtnfgiplgkobnlaaDoor
open Go.Shelf Go.RowKit
set_option linter.unusedVariables false
set_option linter.unusedSimpArgs false
set_option maxRecDepth 100000 in
set_option maxHeartbeats 1000000 in
theorem drawMonText (w : World) (a : Option Addr) (len cap : Nat) (h : Src w a len cap) :
    Calls Tryd.prog 7 #[.slice a len cap] w fun e w' => ∃ x y d z, e = .returned (.agg #[.int .i64 x, .int .i64 y, .int .i64 d, .int .i64 z]) ∧ Below w.heap.size w w' := by
  have hb0 : Below w.heap.size w (w.alloc (.cells #[.int .i64 0, .int .i64 0, .int .i64 0, .int .i64 0] 24)) := (Below.refl _ _).alloc (Nat.le_refl _) _
  have hsz : (w.alloc (.cells #[.int .i64 0, .int .i64 0, .int .i64 0, .int .i64 0] 24)).heap.size > w.heap.size := by simp
  have wa := w4_new w 24
  have s0 := h.below hb0
  go_enter Tryd.func7, Tryd.ntmps7
  go_wp2_with fail
  generalize (w.alloc (.cells #[.int .i64 0, .int .i64 0, .int .i64 0, .int .i64 0] 24)) = W at hb0 hsz wa s0 ⊢
  refine (open_any _ _ _ _ s0).mono ?_
  rintro e w1 ⟨rfl, r1, b1⟩
  have wa1 := wa.below b1 (by omega)
  have bz1 := hb0.trans (b1.mono hb0.size)
  have hs1 := b1.size
  clear h wa s0 b1
  go_wp2_with fail
  refine (mon_any _ _ _ 4 r1 (by omega) (by omega) (by omega)).mono ?_
  rintro e w2 ⟨x, y, d, z, q, rfl, hq, r2, s2⟩
  obtain ⟨⟨a0, a1, a2, a3, c0, c1, c2, c3⟩, f0, f1, f2, f3⟩ := wa1.move s2 (by omega)
  have bz2 := s2.below bz1 (by omega) (by omega)
  clear r1 r2 s2 wa1 bz1 hb0
  go_wp2
  try simp only [Exit.inBlock, Exit.then]
  refine bodyPost_ret (v := .agg #[.int .i64 x, .int .i64 y, .int .i64 d, .int .i64 z]) (by simp [results, Tryd.results7, go_sem, *]) rfl ?_
  exact ⟨_, _, _, _, rfl, (((bz2.setCell (by simp) _).setCell (by simp) _).setCell (by simp) _).setCell (by simp) _⟩
theorem rdr_low {w w' : World} {B p : Nat} (h : Rdr w B p) (hb : Below w.heap.size w w') : Rdr w' B p := by
  have hlt := h.lt
  obtain ⟨hc1, hf, a, len, cap, hc0, hl, h0⟩ := h
  have he := hb.block B hlt
  refine ⟨(World.cell?_of_block (w := w) (a := ⟨B, 1, none⟩) he).trans hc1, (World.frozen?_of_block (w := w) (a := ⟨B, 1, none⟩) he).trans hf, a, len, cap, (World.cell?_of_block (w := w) (a := ⟨B, 0, none⟩) he).trans hc0, hl, ?_⟩
  rcases h0 with h0 | ⟨bb, off, z, rfl, hbb, hz, z0, z1⟩
  · exact .inl h0
  · exact .inr ⟨bb, off, z, rfl, hbb, fun i hi => (World.cell?_of_block (w := w) (a := ⟨bb, off + i, none⟩) (hb.block bb (by omega))).trans (hz i hi), z0, z1⟩
theorem monT_le (m : M) : (monT m).length ≤ 12 := by
  cases h : M.ok m
  · rw [monT_no h]; exact Nat.zero_le _
  · exact monT_len h
set_option maxRecDepth 100000 in
set_option maxHeartbeats 1000000 in
theorem drawMonRead (w : World) (a : Option Addr) (len cap : Nat) (h : Src w a len cap) :
    Calls Tryd.prog 9 #[.slice a len cap] w fun e w' => ∃ l : List UInt8, e = .returned (.string ⟨l.toArray⟩) ∧ l.length ≤ 1000 ∧ Below w.heap.size w w' := by
  go_enter Tryd.func9, Tryd.ntmps9
  go_wp2_with fail
  refine (open_any _ _ _ _ h).mono ?_
  rintro e w1 ⟨rfl, r1, b1⟩
  clear h
  go_wp2_with fail
  refine (mon_any _ _ _ 99 r1 (by omega) (by omega) (by omega)).mono ?_
  rintro e w2 ⟨x, y, d, z, q, rfl, hq, r2, s2⟩
  have bz2 := s2.below b1 (by omega) b1.size
  clear r1 s2 b1
  go_wp2_with fail
  refine (monTextS x y d z _).mono ?_
  rintro e w3 ⟨rfl, hb3⟩
  obtain ⟨l, hl⟩ : ∃ l, monT ⟨x, y, d, z⟩ = l := ⟨_, rfl⟩
  have hll : l.length ≤ 900 := by rw [← hl]; exact Nat.le_trans (monT_le _) (by omega)
  rw [hl]
  clear hl
  have r3 : Rdr w3 w.heap.size q := rdr_low r2 hb3
  have bz3 := bz2.trans (hb3.mono bz2.size)
  clear r2 bz2 hb3
  go_wp2_with fail
  refine (maybe_any _ _ _ _ r3 (by omega) (by omega)).mono ?_
  rintro e w4 ⟨l', q', rfl, hl', hq', r4, s4⟩
  have bz4 := s4.below bz3 (by omega) bz3.size
  clear r3 r4 bz3 s4
  go_wp2
  go_ret
  exact ⟨l', rfl, by omega, bz4⟩
end Go.Proofs.YtnfgiplgkobnlaaDoor
