/-
  What the drawing functions return: the reader's pick is a number below its bound, and writes the reader's place alone; what is drawn is some number that fits its kind.
  A text that is bent (l20Bent, l20Maybe): some text, at most one byte longer.
  The program reads monomials (monGuess, MonRead).
-/
import Derived.Test.YtkcmamepoplcdaaGreatDoorRows
import Derived.WalkKit
import Derived.Deep.QuietTactic
import Derived.BigQuiet
import Derived.Deep.RegionWith
import Derived.WalkSmall
import Derived.Test.YtkcmamepoplcdaaGreatDoorGaf
namespace Go.Proofs.YtkcmamepoplcdaaGreatDoor
open Go.RowKit
set_option linter.unusedVariables false

theorem xor_nn (x y : Int) (hx : 0 ≤ x) (hx' : x < 1099511627776) (hy : 0 ≤ y) (hy' : y < 1099511627776) : 0 ≤ bits .xor .i64 x y := by
  obtain ⟨a, rfl⟩ := Int.eq_ofNat_of_zero_le hx
  obtain ⟨b, rfl⟩ := Int.eq_ofNat_of_zero_le hy
  have hab : a ^^^ b < 2 ^ 40 := Nat.xor_lt_two_pow (by omega) (by omega)
  have h1 : (BitVec.ofInt 64 (a : Int)).toNat = a := by
    rw [BitVec.ofInt_natCast, BitVec.toNat_ofNat]; exact Nat.mod_eq_of_lt (by omega)
  have h2 : (BitVec.ofInt 64 (b : Int)).toNat = b := by
    rw [BitVec.ofInt_natCast, BitVec.toNat_ofNat]; exact Nat.mod_eq_of_lt (by omega)
  show 0 ≤ IntKind.i64.wrap ((BitVec.ofInt 64 (a : Int) ^^^ BitVec.ofInt 64 (b : Int)).toNat : Int)
  rw [BitVec.toNat_xor, h1, h2]
  simp only [IntKind.wrap, IntKind.bits, IntKind.signed]
  generalize a ^^^ b = c at hab
  have hc : (c : Int) < 1099511627776 := by omega
  simp
  omega
theorem tmod_bd {x n : Int} (hx : 0 ≤ x) (hn : 1 ≤ n) : 0 ≤ x.tmod n ∧ x.tmod n < n := by
  rw [Int.tmod_eq_emod_of_nonneg hx]
  exact ⟨Int.emod_nonneg _ (by omega), Int.emod_lt_of_pos _ (by omega)⟩

set_option maxHeartbeats 1000000 in
theorem pick_in (w : World) (B bb off len cap p : Nat) (n : Int) (z : Nat → Int)
    (hc0 : w.cell? ⟨B, 0, none⟩ = some (.slice (some ⟨bb, off, none⟩) len cap))
    (hc1 : w.cell? ⟨B, 1, none⟩ = some (.int .i64 p))
    (hf : w.frozen? ⟨B, 1, none⟩ = false)
    (hbb : bb < B) (hz : ∀ i, i < len → w.cell? ⟨bb, off + i, none⟩ = some (.int .u8 (z i)))
    (hz0 : ∀ i, 0 ≤ z i) (hz1 : ∀ i, z i ≤ 255)
    (hl : len ≤ 2000) (hn : 1 ≤ n) (hn' : n ≤ 100000) (hp : p < len) :
    Calls Tryz.prog 55 #[.pointer (some ⟨B, 0, none⟩), .int .i64 n] w fun e w' => ∃ v, e = .returned (.int .i64 v) ∧ 0 ≤ v ∧ v < n ∧ ∃ nq, w' = (w.setCell ⟨B, 1, none⟩ (.int .i64 (p + 1))).drewN nq := by
  have hne : ¬ bb = B := by omega
  have hl0 : ((len : Int) == 0) = false := by simp; omega
  have hpl : (p : Int) < (len : Int) := by omega
  have hcp := hz p hp
  have z0 := hz0 p
  have z1 := hz1 p
  have hm0 := Int.emod_nonneg (z p) (show n ≠ 0 by omega)
  have hm1 := Int.emod_lt_of_pos (z p) (show 0 < n by omega)
  clear hz hz0 hz1
  go_enter Tryz.func55, Tryz.ntmps55
  go_wp2
  go_ret
  exact ⟨_, rfl, hm0, hm1, 0, rfl⟩
set_option maxHeartbeats 1000000 in
theorem pick_none (w : World) (B cap p : Nat) (a : Option Addr) (n : Int)
    (hc0 : w.cell? ⟨B, 0, none⟩ = some (.slice a 0 cap))
    (hc1 : w.cell? ⟨B, 1, none⟩ = some (.int .i64 p))
    (hf : w.frozen? ⟨B, 1, none⟩ = false) (hn : 1 ≤ n) (hp : (p : Int) ≤ 100000) :
    Calls Tryz.prog 55 #[.pointer (some ⟨B, 0, none⟩), .int .i64 n] w fun e w' => ∃ v, e = .returned (.int .i64 v) ∧ 0 ≤ v ∧ v < n ∧ ∃ nq, w' = (w.setCell ⟨B, 1, none⟩ (.int .i64 (p + 1))).drewN nq := by
  go_enter Tryz.func55, Tryz.ntmps55
  go_wp2
  go_ret
  exact ⟨_, rfl, by omega, by omega, 0, rfl⟩

set_option maxHeartbeats 1000000 in
theorem pick_past (w : World) (B bb off len cap p : Nat) (n : Int) (z : Nat → Int)
    (hc0 : w.cell? ⟨B, 0, none⟩ = some (.slice (some ⟨bb, off, none⟩) len cap))
    (hc1 : w.cell? ⟨B, 1, none⟩ = some (.int .i64 p))
    (hf : w.frozen? ⟨B, 1, none⟩ = false)
    (hbb : bb < B) (hz : ∀ i, i < len → w.cell? ⟨bb, off + i, none⟩ = some (.int .u8 (z i)))
    (hz0 : ∀ i, 0 ≤ z i) (hz1 : ∀ i, z i ≤ 255)
    (hl : len ≤ 2000) (hn : 1 ≤ n) (hn' : n ≤ 100000) (hp : len ≤ p) (h0 : 0 < len) (hp' : (p : Int) ≤ 100000) :
    Calls Tryz.prog 55 #[.pointer (some ⟨B, 0, none⟩), .int .i64 n] w fun e w' => ∃ v, e = .returned (.int .i64 v) ∧ 0 ≤ v ∧ v < n ∧ ∃ nq, w' = (w.setCell ⟨B, 1, none⟩ (.int .i64 (p + 1))).drewN nq := by
  have hne : ¬ bb = B := by omega
  have hl0 : ((len : Int) == 0) = false := by simp; omega
  have hlp : (0 : Int) < (len : Int) := by omega
  have hl2 : (len : Int) ≤ 2000 := by omega
  have hpl : (len : Int) ≤ (p : Int) := by omega
  have i1 := Int.emod_nonneg (p : Int) (show (len : Int) ≠ 0 by omega)
  have i2 := Int.emod_lt_of_pos (p : Int) hlp
  have j1 := Int.emod_nonneg ((p : Int) * 7 + 3) (show (len : Int) ≠ 0 by omega)
  have j2 := Int.emod_lt_of_pos ((p : Int) * 7 + 3) hlp
  have q1 : 0 ≤ (p : Int) / (len : Int) := Int.ediv_nonneg (by omega) (by omega)
  have q2 : (p : Int) / (len : Int) ≤ 100000 := Int.le_trans (Int.ediv_le_self _ (by omega)) hp'
  have hci := hz (p % len) (Nat.mod_lt _ h0)
  have hcj := hz ((p * 7 + 3) % len) (Nat.mod_lt _ h0)
  have zi0 := hz0 (p % len)
  have zi1 := hz1 (p % len)
  have zj0 := hz0 ((p * 7 + 3) % len)
  have zj1 := hz1 ((p * 7 + 3) % len)
  clear hz hz0 hz1
  go_enter Tryz.func55, Tryz.ntmps55
  go_wp2
  go_quiet (fail)
  go_wp2
  go_ret
  exact ⟨_, rfl, (tmod_bd (xor_nn _ _ (by omega) (by omega) (by omega) (by omega)) hn).1, (tmod_bd (xor_nn _ _ (by omega) (by omega) (by omega) (by omega)) hn).2, _, rfl⟩

/-- The reader at block B stands at place p over some bytes that lie below B; its place may be written. -/
def Rdr (w : World) (B p : Nat) : Prop :=
  w.cell? ⟨B, 1, none⟩ = some (.int .i64 p) ∧ w.frozen? ⟨B, 1, none⟩ = false ∧
  ∃ (a : Option Addr) (len cap : Nat), w.cell? ⟨B, 0, none⟩ = some (.slice a len cap) ∧ len ≤ 2000 ∧
    (len = 0 ∨ ∃ (bb off : Nat) (z : Nat → Int), a = some ⟨bb, off, none⟩ ∧ bb < B ∧ (∀ i, i < len → w.cell? ⟨bb, off + i, none⟩ = some (.int .u8 (z i))) ∧ (∀ i, 0 ≤ z i) ∧ ∀ i, z i ≤ 255)
/-- What a pick does to the world: the reader's place goes on by one. -/
def Picked (w w' : World) (B p : Nat) : Prop := ∃ nq, w' = (w.setCell ⟨B, 1, none⟩ (.int .i64 ((p + 1 : Nat) : Int))).drewN nq
theorem pick_any (w : World) (B p : Nat) (n : Int) (h : Rdr w B p) (hn : 1 ≤ n) (hn' : n ≤ 100000) (hp : (p : Int) ≤ 100000) :
    Calls Tryz.prog 55 #[.pointer (some ⟨B, 0, none⟩), .int .i64 n] w fun e w' => ∃ v, e = .returned (.int .i64 v) ∧ 0 ≤ v ∧ v < n ∧ Picked w w' B p := by
  obtain ⟨hc1, hf, a, len, cap, hc0, hl, h0⟩ := h
  have key : ∀ e w', (∃ v, e = Ending.returned (.int .i64 v) ∧ 0 ≤ v ∧ v < n ∧ ∃ nq, w' = (w.setCell ⟨B, 1, none⟩ (.int .i64 (p + 1))).drewN nq) → ∃ v, e = .returned (.int .i64 v) ∧ 0 ≤ v ∧ v < n ∧ Picked w w' B p := by
    rintro e w' ⟨v, h1, h2, h3, nq, h4⟩
    exact ⟨v, h1, h2, h3, nq, by rw [h4]; rfl⟩
  by_cases hz : len = 0
  · subst hz
    exact (pick_none w B cap p a n hc0 hc1 hf hn hp).mono key
  · obtain ⟨bb, off, z, rfl, hbb, hb, z0, z1⟩ := h0.resolve_left hz
    by_cases hpl : p < len
    · exact (pick_in w B bb off len cap p n z hc0 hc1 hf hbb hb z0 z1 hl hn hn' hpl).mono key
    · exact (pick_past w B bb off len cap p n z hc0 hc1 hf hbb hb z0 z1 hl hn hn' (by omega) (by omega) hp).mono key

/-- All blocks but B are as they were; the streams too. -/
structure Beside (B : Nat) (w w' : World) : Prop where
  os : w'.os = w.os
  tape : w'.tape = w.tape
  output : w'.output = w.output
  size : w.heap.size ≤ w'.heap.size
  block : ∀ k, k < w.heap.size → k ≠ B → w'.heap[k]? = w.heap[k]?
theorem Beside.refl (B : Nat) (w : World) : Beside B w w := ⟨rfl, rfl, rfl, Nat.le_refl _, fun _ _ _ => rfl⟩
theorem Beside.trans {B : Nat} {a b c : World} (h : Beside B a b) (k : Beside B b c) : Beside B a c :=
  ⟨k.os.trans h.os, k.tape.trans h.tape, k.output.trans h.output, Nat.le_trans h.size k.size, fun i hi hn => (k.block i (Nat.lt_of_lt_of_le hi h.size) hn).trans (h.block i hi hn)⟩
theorem Beside.alloc {B : Nat} {a w : World} (h : Beside B a w) (o : Obj) : Beside B a (w.alloc o) :=
  h.trans ⟨rfl, rfl, rfl, by simp, fun k hk _ => Below.heap_alloc _ _ _ hk⟩
theorem Beside.drewN {B : Nat} {a w : World} (h : Beside B a w) (n : Nat) : Beside B a (w.drewN n) := h.trans ⟨rfl, rfl, rfl, Nat.le_refl _, fun _ _ _ => rfl⟩
theorem Beside.cell {B : Nat} {w w' : World} (h : Beside B w w') {b o : Nat} (hb : b < w.heap.size) (hn : b ≠ B) : w'.cell? ⟨b, o, none⟩ = w.cell? ⟨b, o, none⟩ :=
  World.cell?_of_block (w := w) (h.block b hb hn)
theorem Beside.below {B n : Nat} {a w w' : World} (k : Below n a w) (h : Beside B w w') (hB : n ≤ B) (hn : n ≤ w.heap.size) : Below n a w' :=
  k.trans ⟨h.os, h.tape, h.output, h.size, fun k hk => h.block k (by omega) (by omega)⟩
theorem Picked.beside {w w' : World} {B p : Nat} (h : Picked w w' B p) : Beside B w w' := by
  obtain ⟨nq, rfl⟩ := h
  have h : Beside B w (w.setCell ⟨B, 1, none⟩ (.int .i64 ((p + 1 : Nat) : Int))) := ⟨rfl, rfl, rfl, by simp [World.setCell], fun k _ hk => Below.heap_setCell _ _ _ _ hk⟩
  exact h.drewN nq
theorem Rdr.lt {w : World} {B p : Nat} (h : Rdr w B p) : B < w.heap.size := World.block_lt_of_cell? w _ h.1
theorem Picked.rdr {w w' : World} {B p : Nat} (hp : Picked w w' B p) (h : Rdr w B p) : Rdr w' B (p + 1) := by
  have hb := hp.beside
  have hlt := h.lt
  obtain ⟨nq, rfl⟩ := hp
  obtain ⟨hc1, hf, a, len, cap, hc0, hl, h0⟩ := h
  refine ⟨by go_simp, by go_simp, a, len, cap, by go_simp, hl, ?_⟩
  rcases h0 with h0 | ⟨bb, off, z, rfl, hbb, hz, z0, z1⟩
  · exact .inl h0
  · exact .inr ⟨bb, off, z, rfl, hbb, fun i hi => by rw [hb.cell (by omega) (by omega)]; exact hz i hi, z0, z1⟩
theorem Rdr.alloc {w : World} {B p : Nat} (h : Rdr w B p) (o : Obj) : Rdr (w.alloc o) B p := by
  have hlt := h.lt
  obtain ⟨hc1, hf, a, len, cap, hc0, hl, h0⟩ := h
  refine ⟨by rw [World.cell?_alloc_past o B 1 hlt]; exact hc1, by rw [World.frozen?_alloc_past o B 1 hlt]; exact hf, a, len, cap, by rw [World.cell?_alloc_past o B 0 hlt]; exact hc0, hl, ?_⟩
  rcases h0 with h0 | ⟨bb, off, z, rfl, hbb, hz, z0, z1⟩
  · exact .inl h0
  · exact .inr ⟨bb, off, z, rfl, hbb, fun i hi => by rw [World.cell?_alloc_past o bb _ (by omega)]; exact hz i hi, z0, z1⟩
theorem Rdr.drewN {w : World} {B p : Nat} (h : Rdr w B p) (n : Nat) : Rdr (w.drewN n) B p := h


/-- A slice of bytes that came in: empty, or its bytes lie in a block that is there. -/
def Src (w : World) (a : Option Addr) (len cap : Nat) : Prop :=
  len ≤ cap ∧ cap ≤ maxLen ∧ (len = 0 ∨ ∃ (bb off : Nat) (z : Nat → Int), a = some ⟨bb, off, none⟩ ∧ bb < w.heap.size ∧ (∀ i, i < len → w.cell? ⟨bb, off + i, none⟩ = some (.int .u8 (z i))) ∧ (∀ i, 0 ≤ z i) ∧ ∀ i, z i ≤ 255)
theorem Src.below {w w' : World} {a : Option Addr} {len cap : Nat} (h : Src w a len cap) (hb : Below w.heap.size w w') : Src w' a len cap := by
  obtain ⟨h1, h2, h3⟩ := h
  refine ⟨h1, h2, ?_⟩
  rcases h3 with h0 | ⟨bb, off, z, rfl, hbb, hz, z0, z1⟩
  · exact .inl h0
  · exact .inr ⟨bb, off, z, rfl, Nat.lt_of_lt_of_le hbb hb.size, fun i hi => by rw [hb.cell (p := ⟨bb, off + i, none⟩) hbb]; exact hz i hi, z0, z1⟩

/-- A reader in a new block. -/
theorem rdr_new (w : World) (a : Option Addr) (len cap : Nat) (t : TypeId) (hl : len ≤ 2000)
    (h : len = 0 ∨ ∃ (bb off : Nat) (z : Nat → Int), a = some ⟨bb, off, none⟩ ∧ bb < w.heap.size ∧ (∀ i, i < len → w.cell? ⟨bb, off + i, none⟩ = some (.int .u8 (z i))) ∧ (∀ i, 0 ≤ z i) ∧ ∀ i, z i ≤ 255) :
    Rdr (w.alloc (.cells #[.slice a len cap, .int .i64 0] t)) w.heap.size 0 := by
  refine ⟨by rw [World.cell?_alloc_at _ _ _ _ rfl]; rfl, by rw [World.frozen?_alloc_at _ _ _ _ rfl], a, len, cap, by rw [World.cell?_alloc_at _ _ _ _ rfl]; rfl, hl, ?_⟩
  rcases h with h0 | ⟨bb, off, z, rfl, hbb, hz, z0, z1⟩
  · exact .inl h0
  · exact .inr ⟨bb, off, z, rfl, hbb, fun i hi => by rw [World.cell?_alloc_past _ bb _ hbb]; exact hz i hi, z0, z1⟩
theorem open_any (w : World) (a : Option Addr) (len cap : Nat) (h : Src w a len cap) :
    Calls Tryz.prog 48 #[.slice a len cap] w fun e w' => e = .returned (.pointer (some ⟨w.heap.size, 0, none⟩)) ∧ Rdr w' w.heap.size 0 ∧ Below w.heap.size w w' := by
  obtain ⟨h1, h2, h3⟩ := h
  unfold maxLen at h2
  by_cases hl : len ≤ 2000
  · have hl' : (len : Int) ≤ 2000 := by omega
    go_enter Tryz.func48, Tryz.ntmps48
    go_wp2
    go_ret
    exact ⟨rfl, rdr_new w a len cap _ hl h3, (Below.refl _ _).alloc (Nat.le_refl _) _⟩
  · have hl' : (2000 : Int) < (len : Int) := by omega
    have hc' : (2000 : Int) ≤ (cap : Int) := by omega
    rcases h3 with h0 | ⟨bb, off, z, rfl, hbb, hz, z0, z1⟩
    · omega
    · have hn := rdr_new w (some ⟨bb, off, none⟩) 2000 cap 91 (Nat.le_refl _) (.inr ⟨bb, off, z, rfl, hbb, fun i hi => hz i (by omega), z0, z1⟩)
      clear hz z0 z1
      go_enter Tryz.func48, Tryz.ntmps48
      go_wp2
      go_ret
      exact ⟨rfl, hn, (Below.refl _ _).alloc (Nat.le_refl _) _⟩

/-- The reader that a draw over the world w0 has made, and nothing of w0 has turned. -/
def RB (w0 W : World) (p : Nat) : Prop := Rdr W w0.heap.size p ∧ Below w0.heap.size w0 W
theorem RB.alloc {w0 W : World} {p : Nat} (h : RB w0 W p) (o : Obj) : RB w0 (W.alloc o) p := ⟨h.1.alloc o, h.2.alloc h.2.size o⟩
theorem RB.drewN {w0 W : World} {p : Nat} (h : RB w0 W p) (n : Nat) : RB w0 (W.drewN n) p := ⟨h.1, below_drewN h.2 n⟩
theorem RB.drew {w0 W : World} {p : Nat} (h : RB w0 W p) : RB w0 W.drew p := h.drewN 1
theorem RB.lt {w0 W : World} {p : Nat} (h : RB w0 W p) : w0.heap.size < W.heap.size := h.1.lt
theorem pick_rb (w0 W : World) (p : Nat) (n : Int) (h : RB w0 W p) (hn : 1 ≤ n) (hn' : n ≤ 100000) (hp : (p : Int) ≤ 100000) :
    Calls Tryz.prog 55 #[.pointer (some ⟨w0.heap.size, 0, none⟩), .int .i64 n] W fun e w' => ∃ v, e = .returned (.int .i64 v) ∧ 0 ≤ v ∧ v < n ∧ RB w0 w' (p + 1) ∧ (∀ b o, b < W.heap.size → ¬ b = w0.heap.size → w'.cell? ⟨b, o, none⟩ = W.cell? ⟨b, o, none⟩) ∧ W.heap.size ≤ w'.heap.size ∧ ¬ w'.heap.size = w0.heap.size := by
  refine (pick_any W w0.heap.size p n h.1 hn hn' hp).mono ?_
  rintro e w' ⟨v, h1, h2, h3, k⟩
  have r := k.rdr h.1
  have s := k.beside
  have l := r.lt
  exact ⟨v, h1, h2, h3, ⟨r, s.below h.2 (Nat.le_refl _) h.2.size⟩, fun b o hb hn => s.cell hb hn, s.size, by omega⟩

end Go.Proofs.YtkcmamepoplcdaaGreatDoor
namespace Go.Proofs.YtkcmamepoplcdaaGreatDoor
open Go.Shelf Go.RowKit
set_option linter.unusedVariables false
set_option linter.unusedSimpArgs false
theorem ba_cat (a b : List UInt8) : (⟨a.toArray⟩ ++ ⟨b.toArray⟩ : ByteArray) = ⟨(a ++ b).toArray⟩ := by
  apply ByteArray.ext
  simp
theorem ba_cat1 (a : List UInt8) (c : UInt8) : (⟨a.toArray⟩ ++ ⟨#[c]⟩ : ByteArray) = ⟨(a ++ [c]).toArray⟩ := ba_cat a [c]
theorem ba_cat3 (a b : List UInt8) (c : UInt8) : (⟨a.toArray⟩ ++ ⟨#[c]⟩ ++ ⟨b.toArray⟩ : ByteArray) = ⟨(a ++ c :: b).toArray⟩ := by
  rw [ba_cat1, ba_cat, List.append_assoc]; rfl
theorem str_from1 {l : List UInt8} {k : Nat} (h : k + 1 ≤ l.length) (u : World) : (Instr.slice 9 (.string ⟨l.toArray⟩) (some (.int .i64 ((k : Int) + 1))) none none).run Tryz.prog u = .ok (.string ⟨(l.drop (k + 1)).toArray⟩) u := str_from h u
theorem byte_of (x : Int) : ((UInt8.ofNat (x % 256).toNat).toNat : Int) = x % 256 := by
  have h1 := Int.emod_nonneg x (show (256 : Int) ≠ 0 by omega)
  have h2 := Int.emod_lt_of_pos x (show (0 : Int) < 256 by omega)
  rw [UInt8.toNat_ofNat']
  omega
theorem one_byte (w : World) (x : Int) (t : TypeId) :
    (convert 35 9 (.slice (some ⟨w.heap.size, 0, none⟩) 1 1)).run Tryz.prog (w.alloc (Obj.cells #[.int .u8 (x % 256)] t)) = .ok (.string ⟨[UInt8.ofNat (x % 256).toNat].toArray⟩) (w.alloc (Obj.cells #[.int .u8 (x % 256)] t)) :=
  run_convert_bytes_back _ _ _ 5 ⟨w.heap.size, 0, none⟩ 1 [UInt8.ofNat (x % 256).toNat] Tryz.underlying35 Tryz.underlying5 Tryz.underlying9 (fun j hj => by
    have hj0 : j = 0 := by simpa using hj
    subst hj0
    have e : ([UInt8.ofNat (x % 256).toNat] : List UInt8)[0] = UInt8.ofNat (x % 256).toNat := rfl
    rw [e, byte_of]
    show (w.alloc _).cell? ⟨w.heap.size, 0, none⟩ = _
    rw [World.cell?_alloc_at _ _ _ _ rfl]
    rfl)
set_option maxRecDepth 100000 in
set_option maxHeartbeats 2000000 in
theorem bent_any (w : World) (B p : Nat) (l : List UInt8) (h : Rdr w B p) (hl : l.length ≤ 90000) (hp : p ≤ 90000) :
    Calls Tryz.prog 56 #[.pointer (some ⟨B, 0, none⟩), .string ⟨l.toArray⟩] w fun e w' => ∃ (l' : List UInt8) (q : Nat), e = .returned (.string ⟨l'.toArray⟩) ∧ l'.length ≤ l.length + 1 ∧ q ≤ p + 5 ∧ Rdr w' B q ∧ Beside B w w' := by
  have hlI : (l.length : Int) ≤ 90000 := by omega
  go_enter Tryz.func56, Tryz.ntmps56
  go_wp2_with fail
  refine (pick_any _ _ _ _ h (by omega) (by omega) (by omega)).mono ?_
  rintro e w1 ⟨k, rfl, k0, k1, hk⟩
  have h1 := hk.rdr h
  have hb1 := hk.beside
  clear hk
  go_wp2_with fail
  refine (pick_any _ _ _ _ h1 (by omega) (by omega) (by omega)).mono ?_
  rintro e w2 ⟨y, rfl, y0, y1, hk⟩
  have h2 := hk.rdr h1
  have hb2 := hb1.trans hk.beside
  clear hk h1 hb1 h
  go_wp2_with fail
  refine (pick_any _ _ _ _ (h2.alloc _) (by omega) (by omega) (by omega)).mono ?_
  rintro e w3 ⟨u, rfl, u0, u1, hk⟩
  have hb3 := hk.beside
  have h3 := hk.rdr (h2.alloc _)
  obtain ⟨x, hx⟩ : ∃ x, w3.cell? ⟨w2.heap.size, u.toNat, none⟩ = some (.int .i64 x) := by
    rw [hb3.cell (by simp) (by have := h2.lt; omega), World.cell?_alloc_at _ _ _ _ rfl]
    have hu : u = 0 ∨ u = 1 ∨ u = 2 ∨ u = 3 ∨ u = 4 ∨ u = 5 ∨ u = 6 ∨ u = 7 := by omega
    rcases hu with rfl | rfl | rfl | rfl | rfl | rfl | rfl | rfl <;> exact ⟨_, rfl⟩
  have hbb : Beside B w w3 := (hb2.alloc _).trans hb3
  clear hk hb2 hb3 h2
  obtain ⟨K, rfl⟩ := Int.eq_ofNat_of_zero_le k0
  have hcv := one_byte w3 x 5
  obtain ⟨c, hc⟩ : ∃ c, UInt8.ofNat (x % 256).toNat = c := ⟨_, rfl⟩
  rw [hc] at hcv
  clear hc
  go_wp2_with fail
  have hbc := hbb.alloc (Obj.cells #[.int .u8 (x % 256)] 5)
  have h4 := h3.alloc (Obj.cells #[.int .u8 (x % 256)] 5)
  clear hbb h3 hcv hx
  generalize w3.alloc (Obj.cells #[.int .u8 (x % 256)] 5) = w4 at hbc h4 ⊢
  refine (pick_any _ _ _ _ h4 (by omega) (by omega) (by omega)).mono ?_
  rintro e w5 ⟨v, rfl, v0, v1, hk⟩
  have h5 := hk.rdr h4
  have hb5 := hbc.trans hk.beside
  clear hk h4 hbc
  have hkl : K ≤ l.length := by omega
  have hto := fun u => str_to (l := l) (k := K) hkl u
  have hfr := fun u => str_from (l := l) (k := K) hkl u
  by_cases hv : v = 0
  · subst hv
    go_wp2
    go_quiet (fail)
    go_wp2
    go_ret
    exact ⟨l.take K ++ c :: l.drop K, _, by simp; exact ba_cat3 _ _ _, by simp; omega, by omega, h5, hb5.drewN _⟩
  · have hvb : (v == 0) = false := by simp [hv]
    clear hv
    by_cases hke : K = l.length
    · have hkb : ((K : Int) == (l.length : Int)) = true := by simp [hke]
      clear hke hto hfr
      go_wp2
      go_ret
      exact ⟨l ++ [c], _, by simp; exact ba_cat1 _ _, by simp, by omega, h5, hb5⟩
    · have hkb : ((K : Int) == (l.length : Int)) = false := by simp; omega
      have hfr1 := fun u => str_from1 (l := l) (k := K) (by omega) u
      go_wp2_with fail
      refine (pick_any _ _ _ _ h5 (by omega) (by omega) (by omega)).mono ?_
      rintro e w6 ⟨r, rfl, r0, r1, hk⟩
      have h6 := hk.rdr h5
      have hb6 := hb5.trans hk.beside
      have hKI : (K : Int) < (l.length : Int) := by omega
      clear hk h5 hb5 hfr hke
      by_cases hr : r = 0
      · subst hr
        go_wp2
        go_quiet (fail)
        go_wp2
        go_ret
        exact ⟨l.take K ++ l.drop (K + 1), _, by simp; exact ba_cat _ _, by simp; omega, by omega, h6, hb6.drewN _⟩
      · have hrb : (r == 0) = false := by simp [hr]
        clear hr
        go_wp2
        go_quiet (fail)
        go_wp2
        go_ret
        exact ⟨l.take K ++ c :: l.drop (K + 1), _, by simp; exact ba_cat3 _ _ _, by simp; omega, by omega, h6, hb6.drewN _⟩
set_option maxRecDepth 100000 in
set_option maxHeartbeats 2000000 in
theorem maybe_any (w : World) (B p : Nat) (l : List UInt8) (h : Rdr w B p) (hl : l.length ≤ 90000) (hp : p ≤ 80000) :
    Calls Tryz.prog 53 #[.pointer (some ⟨B, 0, none⟩), .string ⟨l.toArray⟩] w fun e w' => ∃ (l' : List UInt8) (q : Nat), e = .returned (.string ⟨l'.toArray⟩) ∧ l'.length ≤ l.length + 1 ∧ q ≤ p + 6 ∧ Rdr w' B q ∧ Beside B w w' := by
  go_enter Tryz.func53, Tryz.ntmps53
  go_wp2_with fail
  refine (pick_any _ _ _ _ h (by omega) (by omega) (by omega)).mono ?_
  rintro e w1 ⟨k, rfl, k0, k1, hk⟩
  have h1 := hk.rdr h
  have hb1 := hk.beside
  clear hk
  by_cases hk0 : k = 0
  · subst hk0
    go_wp2_with fail
    refine (bent_any _ _ _ _ h1 hl (by omega)).mono ?_
    rintro e w2 ⟨l', q, rfl, hl', hq, h2, hb2⟩
    have hb := hb1.trans hb2
    clear h1 hb1 hb2
    go_wp2
    go_ret
    exact ⟨l', q, rfl, hl', by omega, h2, hb⟩
  · have hkb : (k == 0) = false := by simp [hk0]
    clear hk0
    go_wp2
    go_ret
    exact ⟨l, _, rfl, by omega, by omega, h1, hb1⟩
end Go.Proofs.YtkcmamepoplcdaaGreatDoor
namespace Go.Proofs.YtkcmamepoplcdaaGreatDoor
open Go.Shelf Go.RowKit
set_option linter.unusedVariables false
set_option linter.unusedSimpArgs false

/-- the library's errors lie where their initialisers lay them. -/
def Er (w : World) : Prop := (∃ t p, w.var? Tryz.prog "strconv.ErrSyntax" = some #[.iface t p]) ∧ ∃ t p, w.var? Tryz.prog "strconv.ErrRange" = some #[.iface t p]
theorem var_below {w w' : World} {n : String} {cs : Array Value} (h : w.var? Tryz.prog n = some cs) (hb : Below w.heap.size w w') : w'.var? Tryz.prog n = some cs := by
  unfold World.var? at *
  cases hg : Tryz.prog.globalNamed n with
  | none => simp [hg] at h
  | some g =>
    simp only [hg, Option.bind_some] at h ⊢
    have hlt : g < w.heap.size := by
      cases hx : w.heap[g]? with
      | none => rw [hx] at h; simp at h
      | some o => exact (Array.getElem?_eq_some_iff.1 hx).1
    rw [hb.block g hlt]
    exact h
theorem Er.below {w w' : World} (h : Er w) (hb : Below w.heap.size w w') : Er w' := ⟨h.1.imp fun t ⟨p, e⟩ => ⟨p, var_below e hb⟩, h.2.imp fun t ⟨p, e⟩ => ⟨p, var_below e hb⟩⟩
shelf_lay Lays.n103 Nm 103 at Tryz as lay103
shelf_lay LaysC.n172 Nm 172 at Tryz as layC172
theorem cut_yes {l : List UInt8} {c : UInt8} (h : Lib.hasPrefix l [c] = true) (w : World) : Calls Tryz.prog 203 #[.string ⟨l.toArray⟩, .string ⟨#[c]⟩] w fun e w' => e = .returned (.tuple #[.string ⟨(l.drop 1).toArray⟩, .bool true]) ∧ w' = w := by
  refine (Any.strings_CutPrefix lay103 ⟨l.toArray⟩ ⟨#[c]⟩ w).mono ?_
  rintro e w' ⟨rfl, hw⟩
  refine ⟨?_, hw⟩
  have h' : Lib.hasPrefix (ByteArray.mk l.toArray).data.toList (ByteArray.mk #[c]).data.toList = true := h
  unfold Lib.trimPrefix
  rw [if_pos h', h']
  rfl
theorem cut_no {l : List UInt8} {c : UInt8} (h : Lib.hasPrefix l [c] = false) (w : World) : Calls Tryz.prog 203 #[.string ⟨l.toArray⟩, .string ⟨#[c]⟩] w fun e w' => e = .returned (.tuple #[.string ⟨l.toArray⟩, .bool false]) ∧ w' = w := by
  refine (Any.strings_CutPrefix lay103 ⟨l.toArray⟩ ⟨#[c]⟩ w).mono ?_
  rintro e w' ⟨rfl, hw⟩
  refine ⟨?_, hw⟩
  have h' : Lib.hasPrefix (ByteArray.mk l.toArray).data.toList (ByteArray.mk #[c]).data.toList = false := h
  unfold Lib.trimPrefix
  rw [if_neg (by rw [h']; simp), h']
theorem bel_bytes (w : World) (e : TypeId) (t : ByteArray) : Below w.heap.size w (Lib.bytesWorld w e t) := Lib.bytesWorld_below _ _ _
set_option maxHeartbeats 2000000 in
/-- Atoi of any short text. -/
theorem atoiI (l : List UInt8) (hl : l.length ≤ 1000) (w : World) (h : Er w) : Calls Tryz.prog 159 #[.string ⟨l.toArray⟩] w fun e w' => Below w.heap.size w w' ∧ ((e = .returned (.tuple #[.int .i64 (valA l), .nilIface])) ∨ (valA l = 1 ∧ ∃ v t N, e = .returned (.tuple #[.int .i64 v, .iface t (.pointer (some ⟨N, 0, none⟩))]))) := by
  have hs : (⟨l.toArray⟩ : ByteArray).size = l.length := ba_size l
  cases hv : Lib.atoiAll l with
  | ok v =>
    refine (Any.strconv_Atoi_ok layC172 ⟨l.toArray⟩ (by rw [hs]; omega) v hv w).mono ?_
    rintro e w' ⟨rfl, hw⟩
    refine ⟨?_, .inl ?_⟩
    · rcases hw with rfl | ⟨t, rfl⟩
      · exact Below.refl _ _
      · exact bel_bytes w _ t
    · unfold valA; rw [hv]
  | «syntax» =>
    obtain ⟨t, p, ht⟩ := h.1
    refine (Any.strconv_Atoi_syntax_var layC172 ⟨l.toArray⟩ (by rw [hs]; omega) hv t p w ht).mono ?_
    rintro e w' ⟨N, rfl, _, _, hb⟩
    exact ⟨hb, .inr ⟨by unfold valA; rw [hv], _, _, _, rfl⟩⟩
  | range =>
    obtain ⟨t, p, ht⟩ := h.2
    refine (Any.strconv_Atoi_range_var layC172 ⟨l.toArray⟩ (by rw [hs]; omega) hv t p w ht).mono ?_
    rintro e w' ⟨N, rfl, _, _, hb⟩
    exact ⟨hb, .inr ⟨by unfold valA; rw [hv], _, _, _, rfl⟩⟩
/-- four cells that may be written. -/
def W4 (w : World) (b : Nat) (x0 x1 x2 x3 : Int) : Prop := (w.cell? ⟨b, 0, none⟩ = some (.int .i64 x0) ∧ w.cell? ⟨b, 1, none⟩ = some (.int .i64 x1) ∧ w.cell? ⟨b, 2, none⟩ = some (.int .i64 x2) ∧ w.cell? ⟨b, 3, none⟩ = some (.int .i64 x3)) ∧ ∀ j, w.frozen? ⟨b, j, none⟩ = false
theorem W4.lt {w : World} {b : Nat} {x0 x1 x2 x3 : Int} (h : W4 w b x0 x1 x2 x3) : b < w.heap.size := World.block_lt_of_cell? w _ h.1.1
theorem W4.below {w w' : World} {b : Nat} {x0 x1 x2 x3 : Int} (h : W4 w b x0 x1 x2 x3) (hb : Below w.heap.size w w') : W4 w' b x0 x1 x2 x3 :=
  ⟨⟨(hb.cell (p := ⟨b, 0, none⟩) h.lt).trans h.1.1, (hb.cell (p := ⟨b, 1, none⟩) h.lt).trans h.1.2.1, (hb.cell (p := ⟨b, 2, none⟩) h.lt).trans h.1.2.2.1, (hb.cell (p := ⟨b, 3, none⟩) h.lt).trans h.1.2.2.2⟩, fun j => (hb.frozen (p := ⟨b, j, none⟩) h.lt).trans (h.2 j)⟩
theorem W4.box (w : World) (y : TypeId) (x0 x1 x2 x3 : Int) : W4 (w.alloc (.cells #[.int .i64 x0, .int .i64 x1, .int .i64 x2, .int .i64 x3] y)) w.heap.size x0 x1 x2 x3 :=
  ⟨⟨by rw [World.cell?_alloc_at _ _ _ _ rfl]; rfl, by rw [World.cell?_alloc_at _ _ _ _ rfl]; rfl, by rw [World.cell?_alloc_at _ _ _ _ rfl]; rfl, by rw [World.cell?_alloc_at _ _ _ _ rfl]; rfl⟩, fun j => by rw [World.frozen?_alloc_at _ _ _ _ rfl]⟩
theorem W4.other {w : World} {b : Nat} {x0 x1 x2 x3 : Int} (h : W4 w b x0 x1 x2 x3) {b' k : Nat} (hne : b' ≠ b) (v : Value) : W4 (w.setCell ⟨b', k, none⟩ v) b x0 x1 x2 x3 := by
  have ne : ∀ j, (⟨b', k, none⟩ : Addr) ≠ ⟨b, j, none⟩ := fun j e => hne (by cases e; rfl)
  exact ⟨⟨by rw [World.cell?_setCell_other _ _ _ _ (ne 0)]; exact h.1.1, by rw [World.cell?_setCell_other _ _ _ _ (ne 1)]; exact h.1.2.1, by rw [World.cell?_setCell_other _ _ _ _ (ne 2)]; exact h.1.2.2.1, by rw [World.cell?_setCell_other _ _ _ _ (ne 3)]; exact h.1.2.2.2⟩, fun j => by rw [World.frozen?_setCell]; exact h.2 j⟩
theorem W4.set0 {w : World} {b : Nat} {x0 x1 x2 x3 : Int} (h : W4 w b x0 x1 x2 x3) (v : Int) : W4 (w.setCell ⟨b, 0, none⟩ (.int .i64 v)) b v x1 x2 x3 :=
  ⟨⟨World.cell?_setCell_same _ _ _ h.1.1, by rw [World.cell?_setCell_other _ _ _ _ (by simp)]; exact h.1.2.1, by rw [World.cell?_setCell_other _ _ _ _ (by simp)]; exact h.1.2.2.1, by rw [World.cell?_setCell_other _ _ _ _ (by simp)]; exact h.1.2.2.2⟩, fun j => by rw [World.frozen?_setCell]; exact h.2 j⟩
theorem W4.set1 {w : World} {b : Nat} {x0 x1 x2 x3 : Int} (h : W4 w b x0 x1 x2 x3) (v : Int) : W4 (w.setCell ⟨b, 1, none⟩ (.int .i64 v)) b x0 v x2 x3 :=
  ⟨⟨by rw [World.cell?_setCell_other _ _ _ _ (by simp)]; exact h.1.1, World.cell?_setCell_same _ _ _ h.1.2.1, by rw [World.cell?_setCell_other _ _ _ _ (by simp)]; exact h.1.2.2.1, by rw [World.cell?_setCell_other _ _ _ _ (by simp)]; exact h.1.2.2.2⟩, fun j => by rw [World.frozen?_setCell]; exact h.2 j⟩
theorem W4.set2 {w : World} {b : Nat} {x0 x1 x2 x3 : Int} (h : W4 w b x0 x1 x2 x3) (v : Int) : W4 (w.setCell ⟨b, 2, none⟩ (.int .i64 v)) b x0 x1 v x3 :=
  ⟨⟨by rw [World.cell?_setCell_other _ _ _ _ (by simp)]; exact h.1.1, by rw [World.cell?_setCell_other _ _ _ _ (by simp)]; exact h.1.2.1, World.cell?_setCell_same _ _ _ h.1.2.2.1, by rw [World.cell?_setCell_other _ _ _ _ (by simp)]; exact h.1.2.2.2⟩, fun j => by rw [World.frozen?_setCell]; exact h.2 j⟩
theorem W4.set3 {w : World} {b : Nat} {x0 x1 x2 x3 : Int} (h : W4 w b x0 x1 x2 x3) (v : Int) : W4 (w.setCell ⟨b, 3, none⟩ (.int .i64 v)) b x0 x1 x2 v :=
  ⟨⟨by rw [World.cell?_setCell_other _ _ _ _ (by simp)]; exact h.1.1, by rw [World.cell?_setCell_other _ _ _ _ (by simp)]; exact h.1.2.1, by rw [World.cell?_setCell_other _ _ _ _ (by simp)]; exact h.1.2.2.1, World.cell?_setCell_same _ _ _ h.1.2.2.2⟩, fun j => by rw [World.frozen?_setCell]; exact h.2 j⟩
def cvS (s : List UInt8) (k j : Nat) : Int := if j < k then gcS s j else 0
/-- the guess on its way. -/
def GQ (w : World) (B1 B2 : Nat) (s : List UInt8) (k : Nat) (wr : World) : Prop := Below w.heap.size w wr ∧ W4 wr B1 0 0 0 0 ∧ W4 wr B2 (cvS s k 0) (cvS s k 1) (cvS s k 2) (cvS s k 3)
theorem gst_no {k : Nat} {l : List UInt8} (h : Lib.hasPrefix l [ltr k] = false) : gst k l = (l, 0) := by unfold gst; rw [if_neg (by rw [h]; simp)]
theorem gst_yes {k : Nat} {l : List UInt8} (h : Lib.hasPrefix l [ltr k] = true) : gst k l = ((l.drop 1).drop (lead (l.drop 1)).length, valA (lead (l.drop 1))) := by unfold gst; rw [if_pos h]
set_option maxHeartbeats 400000 in
theorem ofCountsI (x y d e : Int) (w : World) : Calls Tryz.prog 204 #[.agg #[.int .i64 x, .int .i64 y, .int .i64 d, .int .i64 e]] w fun r w' => r = .returned (.agg #[.int .i64 x, .int .i64 y, .int .i64 d, .int .i64 e]) ∧ Below w.heap.size w w' := by
  have i0 : ∀ w : World, (Instr.index 131 (.agg #[.int .i64 x, .int .i64 y, .int .i64 d, .int .i64 e]) (.int .i64 0)).run Tryz.prog w = .ok (.int .i64 x) w := fun _ => by kernel_rfl
  have i1 : ∀ w : World, (Instr.index 131 (.agg #[.int .i64 x, .int .i64 y, .int .i64 d, .int .i64 e]) (.int .i64 1)).run Tryz.prog w = .ok (.int .i64 y) w := fun _ => by kernel_rfl
  have i2 : ∀ w : World, (Instr.index 131 (.agg #[.int .i64 x, .int .i64 y, .int .i64 d, .int .i64 e]) (.int .i64 2)).run Tryz.prog w = .ok (.int .i64 d) w := fun _ => by kernel_rfl
  have i3 : ∀ w : World, (Instr.index 131 (.agg #[.int .i64 x, .int .i64 y, .int .i64 d, .int .i64 e]) (.int .i64 3)).run Tryz.prog w = .ok (.int .i64 e) w := fun _ => by kernel_rfl
  go_enter Tryz.func204, Tryz.ntmps204
  go_wp2
  refine bodyPost_ret (v := .agg #[.int .i64 x, .int .i64 y, .int .i64 d, .int .i64 e]) (by simp [results, Tryz.results204, go_sem]) rfl ⟨rfl, ?_⟩
  first | exact bel_two w _ _ | exact bel_one w _ | exact bel_three w _ _ _
theorem cell_after {w : World} {s : List UInt8} {B1 B2 k : Nat} {wr : World} (h : GQ w B1 B2 s k wr) : True := trivial
set_option maxRecDepth 100000 in
set_option maxHeartbeats 8000000 in
theorem guessI (s : List UInt8) (hs : s.length ≤ 40) (w : World) (hE : Er w) :
    Calls Tryz.prog 183 #[.string ⟨s.toArray⟩] w fun r w' => r = .returned (.agg #[.int .i64 (guess s).x, .int .i64 (guess s).y, .int .i64 (guess s).d, .int .i64 (guess s).e]) ∧ Below w.heap.size w w' := by
  have sl0 : ∀ u : World, (Instr.slice 9 (.string ⟨#[120, 121, 100, 101]⟩) (some (.int .i64 0)) (some (.int .i64 1)) none).run Tryz.prog u = .ok (.string ⟨#[120]⟩) u := fun _ => by kernel_rfl
  have sl1 : ∀ u : World, (Instr.slice 9 (.string ⟨#[120, 121, 100, 101]⟩) (some (.int .i64 1)) (some (.int .i64 2)) none).run Tryz.prog u = .ok (.string ⟨#[121]⟩) u := fun _ => by kernel_rfl
  have sl2 : ∀ u : World, (Instr.slice 9 (.string ⟨#[120, 121, 100, 101]⟩) (some (.int .i64 2)) (some (.int .i64 3)) none).run Tryz.prog u = .ok (.string ⟨#[100]⟩) u := fun _ => by kernel_rfl
  have sl3 : ∀ u : World, (Instr.slice 9 (.string ⟨#[120, 121, 100, 101]⟩) (some (.int .i64 3)) (some (.int .i64 4)) none).run Tryz.prog u = .ok (.string ⟨#[101]⟩) u := fun _ => by kernel_rfl
  have HE := Hid.mk' hE
  clear hE
  have HGX := Hid.mk' (show guess s = ⟨gcS s 0, gcS s 1, gcS s 2, gcS s 3⟩ from rfl)
  obtain ⟨G, hG⟩ : ∃ G, guess s = G := ⟨_, rfl⟩
  rw [hG] at HGX ⊢
  clear hG
  have b1 := bel_one w (.cells #[.int .i64 0, .int .i64 0, .int .i64 0, .int .i64 0] 77)
  have b2 := bel_next b1 (bel_one (w.alloc (.cells #[.int .i64 0, .int .i64 0, .int .i64 0, .int .i64 0] 77)) (.cells #[.int .i64 0, .int .i64 0, .int .i64 0, .int .i64 0] 131))
  have HQ0 : Hid (GQ w w.heap.size (w.heap.size + 1) s 0 ((w.alloc (.cells #[.int .i64 0, .int .i64 0, .int .i64 0, .int .i64 0] 77)).alloc (.cells #[.int .i64 0, .int .i64 0, .int .i64 0, .int .i64 0] 131))) :=
    ⟨b2, (W4.box w 77 0 0 0 0).below (bel_one _ _), by
      have := W4.box (w.alloc (.cells #[.int .i64 0, .int .i64 0, .int .i64 0, .int .i64 0] 77)) 131 0 0 0 0
      rw [World.size_alloc] at this
      exact this⟩
  clear b1 b2
  go_enter Tryz.func183, Tryz.ntmps183
  go_wp2
  go_loopw [10, 0] (fun v10 v0 wr => ∃ (k : Nat) (l : List UInt8), k ≤ 4 ∧ v10 = .int .i64 (k : Int) ∧ v0 = .string ⟨l.toArray⟩ ∧ Hid (l = glS s k) ∧ Hid (GQ w w.heap.size (w.heap.size + 1) s k wr)) (fun v10 _ _ => 4 - (intOf v10).toNat)
  case atStart => exact ⟨0, s, by omega, rfl, rfl, Hid.mk' rfl, HQ0⟩
  case round =>
    obtain ⟨k, l, hk, rfl, rfl, HL, HQ⟩ := hrel
    have hll : l.length ≤ 40 := by rw [HL.out]; exact Nat.le_trans (glS_len s k) hs
    have hneB : w.heap.size + 1 ≠ w.heap.size := by omega
    have hneB2 : w.heap.size ≠ w.heap.size + 1 := by omega
    rcases (show k = 4 ∨ k = 0 ∨ k = 1 ∨ k = 2 ∨ k = 3 by omega) with rfl | rfl | rfl | rfl | rfl
    · obtain ⟨⟨c0, c1, c2, c3⟩, cz⟩ := HQ.out.2.2
      obtain ⟨⟨r0, r1, r2, r3⟩, rz⟩ := HQ.out.2.1
      have e0 : cvS s 4 0 = G.x := by rw [HGX.out]; rfl
      have e1 : cvS s 4 1 = G.y := by rw [HGX.out]; rfl
      have e2 : cvS s 4 2 = G.d := by rw [HGX.out]; rfl
      have e3 : cvS s 4 3 = G.e := by rw [HGX.out]; rfl
      rw [e0] at c0
      rw [e1] at c1
      rw [e2] at c2
      rw [e3] at c3
      clear e0 e1 e2 e3
      go_wp2_with fail
      refine (ofCountsI _ _ _ _ _).mono ?_
      rintro r w9 ⟨rfl, hb9⟩
      clear c0 c1 c2 c3 cz r0 r1 r2 r3 rz
      obtain ⟨⟨r0, r1, r2, r3⟩, rz⟩ := HQ.out.2.1.below hb9
      have HB9 := Hid.mk' (bel_next HQ.out.1 hb9)
      clear hb9
      go_wp2
      refine bodyPost_ret (v := .agg #[.int .i64 G.x, .int .i64 G.y, .int .i64 G.d, .int .i64 G.e]) (by simp [results, Tryz.results183, go_sem, *]) rfl ⟨rfl, ?_⟩
      exact (((HB9.out.setCell (Nat.le_refl _) _).setCell (Nat.le_refl _) _).setCell (Nat.le_refl _) _).setCell (Nat.le_refl _) _
    · have HLN : Hid (glS s 1 = (gst 0 l).1) := by rw [HL.out]; exact Hid.mk' rfl
      have HGC : Hid (gcS s 0 = (gst 0 l).2) := by rw [HL.out]; exact Hid.mk' rfl
      have HCV : Hid (cvS s 1 0 = gcS s 0 ∧ cvS s 1 1 = cvS s 0 1 ∧ cvS s 1 2 = cvS s 0 2 ∧ cvS s 1 3 = cvS s 0 3) := ⟨rfl, rfl, rfl, rfl⟩
      have HZK : Hid (cvS s 0 0 = 0) := Hid.mk' rfl
      cases hp : Lib.hasPrefix l [120]
      · have HS : Hid (gst 0 l = (l, 0)) := Hid.mk' (gst_no (k := 0) hp)
        have HC := Hid.mk' (cut_no hp wr)
        clear hp
        have HQ1 : Hid (GQ w w.heap.size (w.heap.size + 1) s 1 wr) := by
          refine ⟨HQ.out.1, HQ.out.2.1, ?_⟩
          have := HQ.out.2.2
          rw [HCV.out.1, HCV.out.2.1, HCV.out.2.2.1, HCV.out.2.2.2, HGC.out, HS.out]
          rw [HZK.out] at this
          exact this
        go_wp2_with fail
        refine HC.out.mono ?_
        rintro r w2 ⟨rfl, hw2⟩
        obtain rfl := hw2.symm
        clear hw2
        go_wp2
        go_roundw
        case rel => exact ⟨1, l, by omega, by go_num, rfl, by rw [HLN.out, HS.out]; exact Hid.mk' rfl, HQ1⟩
        case measure => simp [intOf]
      · obtain ⟨rs, hrs⟩ : ∃ r, l.drop 1 = r := ⟨_, rfl⟩
        obtain ⟨dg, hdg⟩ : ∃ d, lead rs = d := ⟨_, rfl⟩
        obtain ⟨vl, hvl⟩ : ∃ v, valA dg = v := ⟨_, rfl⟩
        have hrl : rs.length ≤ 40 := by rw [← hrs]; simp; omega
        have hdl : dg.length ≤ rs.length := by rw [← hdg]; exact lead_len rs
        have hdI : (dg.length : Int) ≤ 40 := by omega
        have HS : Hid (gst 0 l = (rs.drop dg.length, vl)) := by have := gst_yes (k := 0) hp; rw [hrs, hdg, hvl] at this; exact Hid.mk' this
        have hcc := cut_yes hp wr
        rw [hrs] at hcc
        have HC := Hid.mk' hcc
        have hll2 := leadI rs (by omega) wr
        rw [hdg] at hll2
        have HLD := Hid.mk' hll2
        have HV := Hid.mk' hvl
        clear hp hrs hdg hcc hll2 hvl
        obtain ⟨⟨c0, c1, c2, c3⟩, cz⟩ := HQ.out.2.2
        go_wp2_with fail
        refine HC.out.mono ?_
        rintro r w2 ⟨rfl, hw2⟩
        obtain rfl := hw2.symm
        clear hw2
        go_wp2_with fail
        refine HLD.out.mono ?_
        rintro r w2 ⟨rfl, hw2⟩
        obtain rfl := hw2.symm
        clear hw2
        have HW1 : Hid (Below w.heap.size w (wr.setCell ⟨w.heap.size + 1, 0, none⟩ (.int .i64 1)) ∧ W4 (wr.setCell ⟨w.heap.size + 1, 0, none⟩ (.int .i64 1)) w.heap.size 0 0 0 0 ∧ W4 (wr.setCell ⟨w.heap.size + 1, 0, none⟩ (.int .i64 1)) (w.heap.size + 1) 1 (cvS s 0 1) (cvS s 0 2) (cvS s 0 3)) := ⟨HQ.out.1.setCell (by simp) _, HQ.out.2.1.other hneB _, HQ.out.2.2.set0 1⟩
        have HA := Hid.mk' (atoiI dg (by omega) _ (HE.out.below HW1.out.1))
        rw [HV.out] at HA
        go_wp2_with fail
        refine HA.out.mono ?_
        rintro r w3 ⟨hb3, hr3⟩
        clear c0 c1 c2 c3 cz
        have HQ3 : Hid (Below w.heap.size w w3 ∧ W4 w3 w.heap.size 0 0 0 0 ∧ W4 w3 (w.heap.size + 1) 1 (cvS s 0 1) (cvS s 0 2) (cvS s 0 3)) := ⟨bel_next HW1.out.1 hb3, HW1.out.2.1.below hb3, HW1.out.2.2.below hb3⟩
        have hfr := fun u => str_from (l := rs) (k := dg.length) hdl u
        obtain ⟨⟨c0, c1, c2, c3⟩, cz⟩ := HQ3.out.2.2
        clear hb3 HW1
        rcases hr3 with rfl | ⟨hv1, v9, t9, N9, rfl⟩
        · have HQ4 : Hid (GQ w w.heap.size (w.heap.size + 1) s 1 (w3.setCell ⟨w.heap.size + 1, 0, none⟩ (.int .i64 vl))) := by
            refine ⟨HQ3.out.1.setCell (by simp) _, HQ3.out.2.1.other hneB _, ?_⟩
            rw [HCV.out.1, HCV.out.2.1, HCV.out.2.2.1, HCV.out.2.2.2, HGC.out, HS.out]
            exact HQ3.out.2.2.set0 vl
          go_wp2
          go_roundw
          case rel => exact ⟨1, rs.drop dg.length, by omega, by go_num, rfl, by rw [HLN.out, HS.out]; exact Hid.mk' rfl, HQ4⟩
          case measure => simp [intOf]
        · have HQ4 : Hid (GQ w w.heap.size (w.heap.size + 1) s 1 w3) := by
            refine ⟨HQ3.out.1, HQ3.out.2.1, ?_⟩
            rw [HCV.out.1, HCV.out.2.1, HCV.out.2.2.1, HCV.out.2.2.2, HGC.out, HS.out, hv1]
            exact HQ3.out.2.2
          clear hv1
          go_wp2
          go_roundw
          case rel => exact ⟨1, rs.drop dg.length, by omega, by go_num, rfl, by rw [HLN.out, HS.out]; exact Hid.mk' rfl, HQ4⟩
          case measure => simp [intOf]
    · have HLN : Hid (glS s 2 = (gst 1 l).1) := by rw [HL.out]; exact Hid.mk' rfl
      have HGC : Hid (gcS s 1 = (gst 1 l).2) := by rw [HL.out]; exact Hid.mk' rfl
      have HCV : Hid (cvS s 2 0 = cvS s 1 0 ∧ cvS s 2 1 = gcS s 1 ∧ cvS s 2 2 = cvS s 1 2 ∧ cvS s 2 3 = cvS s 1 3) := ⟨rfl, rfl, rfl, rfl⟩
      have HZK : Hid (cvS s 1 1 = 0) := Hid.mk' rfl
      cases hp : Lib.hasPrefix l [121]
      · have HS : Hid (gst 1 l = (l, 0)) := Hid.mk' (gst_no (k := 1) hp)
        have HC := Hid.mk' (cut_no hp wr)
        clear hp
        have HQ1 : Hid (GQ w w.heap.size (w.heap.size + 1) s 2 wr) := by
          refine ⟨HQ.out.1, HQ.out.2.1, ?_⟩
          have := HQ.out.2.2
          rw [HCV.out.1, HCV.out.2.1, HCV.out.2.2.1, HCV.out.2.2.2, HGC.out, HS.out]
          rw [HZK.out] at this
          exact this
        go_wp2_with fail
        refine HC.out.mono ?_
        rintro r w2 ⟨rfl, hw2⟩
        obtain rfl := hw2.symm
        clear hw2
        go_wp2
        go_roundw
        case rel => exact ⟨2, l, by omega, by go_num, rfl, by rw [HLN.out, HS.out]; exact Hid.mk' rfl, HQ1⟩
        case measure => simp [intOf]
      · obtain ⟨rs, hrs⟩ : ∃ r, l.drop 1 = r := ⟨_, rfl⟩
        obtain ⟨dg, hdg⟩ : ∃ d, lead rs = d := ⟨_, rfl⟩
        obtain ⟨vl, hvl⟩ : ∃ v, valA dg = v := ⟨_, rfl⟩
        have hrl : rs.length ≤ 40 := by rw [← hrs]; simp; omega
        have hdl : dg.length ≤ rs.length := by rw [← hdg]; exact lead_len rs
        have hdI : (dg.length : Int) ≤ 40 := by omega
        have HS : Hid (gst 1 l = (rs.drop dg.length, vl)) := by have := gst_yes (k := 1) hp; rw [hrs, hdg, hvl] at this; exact Hid.mk' this
        have hcc := cut_yes hp wr
        rw [hrs] at hcc
        have HC := Hid.mk' hcc
        have hll2 := leadI rs (by omega) wr
        rw [hdg] at hll2
        have HLD := Hid.mk' hll2
        have HV := Hid.mk' hvl
        clear hp hrs hdg hcc hll2 hvl
        obtain ⟨⟨c0, c1, c2, c3⟩, cz⟩ := HQ.out.2.2
        go_wp2_with fail
        refine HC.out.mono ?_
        rintro r w2 ⟨rfl, hw2⟩
        obtain rfl := hw2.symm
        clear hw2
        go_wp2_with fail
        refine HLD.out.mono ?_
        rintro r w2 ⟨rfl, hw2⟩
        obtain rfl := hw2.symm
        clear hw2
        have HW1 : Hid (Below w.heap.size w (wr.setCell ⟨w.heap.size + 1, 1, none⟩ (.int .i64 1)) ∧ W4 (wr.setCell ⟨w.heap.size + 1, 1, none⟩ (.int .i64 1)) w.heap.size 0 0 0 0 ∧ W4 (wr.setCell ⟨w.heap.size + 1, 1, none⟩ (.int .i64 1)) (w.heap.size + 1) (cvS s 1 0) 1 (cvS s 1 2) (cvS s 1 3)) := ⟨HQ.out.1.setCell (by simp) _, HQ.out.2.1.other hneB _, HQ.out.2.2.set1 1⟩
        have HA := Hid.mk' (atoiI dg (by omega) _ (HE.out.below HW1.out.1))
        rw [HV.out] at HA
        go_wp2_with fail
        refine HA.out.mono ?_
        rintro r w3 ⟨hb3, hr3⟩
        clear c0 c1 c2 c3 cz
        have HQ3 : Hid (Below w.heap.size w w3 ∧ W4 w3 w.heap.size 0 0 0 0 ∧ W4 w3 (w.heap.size + 1) (cvS s 1 0) 1 (cvS s 1 2) (cvS s 1 3)) := ⟨bel_next HW1.out.1 hb3, HW1.out.2.1.below hb3, HW1.out.2.2.below hb3⟩
        have hfr := fun u => str_from (l := rs) (k := dg.length) hdl u
        obtain ⟨⟨c0, c1, c2, c3⟩, cz⟩ := HQ3.out.2.2
        clear hb3 HW1
        rcases hr3 with rfl | ⟨hv1, v9, t9, N9, rfl⟩
        · have HQ4 : Hid (GQ w w.heap.size (w.heap.size + 1) s 2 (w3.setCell ⟨w.heap.size + 1, 1, none⟩ (.int .i64 vl))) := by
            refine ⟨HQ3.out.1.setCell (by simp) _, HQ3.out.2.1.other hneB _, ?_⟩
            rw [HCV.out.1, HCV.out.2.1, HCV.out.2.2.1, HCV.out.2.2.2, HGC.out, HS.out]
            exact HQ3.out.2.2.set1 vl
          go_wp2
          go_roundw
          case rel => exact ⟨2, rs.drop dg.length, by omega, by go_num, rfl, by rw [HLN.out, HS.out]; exact Hid.mk' rfl, HQ4⟩
          case measure => simp [intOf]
        · have HQ4 : Hid (GQ w w.heap.size (w.heap.size + 1) s 2 w3) := by
            refine ⟨HQ3.out.1, HQ3.out.2.1, ?_⟩
            rw [HCV.out.1, HCV.out.2.1, HCV.out.2.2.1, HCV.out.2.2.2, HGC.out, HS.out, hv1]
            exact HQ3.out.2.2
          clear hv1
          go_wp2
          go_roundw
          case rel => exact ⟨2, rs.drop dg.length, by omega, by go_num, rfl, by rw [HLN.out, HS.out]; exact Hid.mk' rfl, HQ4⟩
          case measure => simp [intOf]
    · have HLN : Hid (glS s 3 = (gst 2 l).1) := by rw [HL.out]; exact Hid.mk' rfl
      have HGC : Hid (gcS s 2 = (gst 2 l).2) := by rw [HL.out]; exact Hid.mk' rfl
      have HCV : Hid (cvS s 3 0 = cvS s 2 0 ∧ cvS s 3 1 = cvS s 2 1 ∧ cvS s 3 2 = gcS s 2 ∧ cvS s 3 3 = cvS s 2 3) := ⟨rfl, rfl, rfl, rfl⟩
      have HZK : Hid (cvS s 2 2 = 0) := Hid.mk' rfl
      cases hp : Lib.hasPrefix l [100]
      · have HS : Hid (gst 2 l = (l, 0)) := Hid.mk' (gst_no (k := 2) hp)
        have HC := Hid.mk' (cut_no hp wr)
        clear hp
        have HQ1 : Hid (GQ w w.heap.size (w.heap.size + 1) s 3 wr) := by
          refine ⟨HQ.out.1, HQ.out.2.1, ?_⟩
          have := HQ.out.2.2
          rw [HCV.out.1, HCV.out.2.1, HCV.out.2.2.1, HCV.out.2.2.2, HGC.out, HS.out]
          rw [HZK.out] at this
          exact this
        go_wp2_with fail
        refine HC.out.mono ?_
        rintro r w2 ⟨rfl, hw2⟩
        obtain rfl := hw2.symm
        clear hw2
        go_wp2
        go_roundw
        case rel => exact ⟨3, l, by omega, by go_num, rfl, by rw [HLN.out, HS.out]; exact Hid.mk' rfl, HQ1⟩
        case measure => simp [intOf]
      · obtain ⟨rs, hrs⟩ : ∃ r, l.drop 1 = r := ⟨_, rfl⟩
        obtain ⟨dg, hdg⟩ : ∃ d, lead rs = d := ⟨_, rfl⟩
        obtain ⟨vl, hvl⟩ : ∃ v, valA dg = v := ⟨_, rfl⟩
        have hrl : rs.length ≤ 40 := by rw [← hrs]; simp; omega
        have hdl : dg.length ≤ rs.length := by rw [← hdg]; exact lead_len rs
        have hdI : (dg.length : Int) ≤ 40 := by omega
        have HS : Hid (gst 2 l = (rs.drop dg.length, vl)) := by have := gst_yes (k := 2) hp; rw [hrs, hdg, hvl] at this; exact Hid.mk' this
        have hcc := cut_yes hp wr
        rw [hrs] at hcc
        have HC := Hid.mk' hcc
        have hll2 := leadI rs (by omega) wr
        rw [hdg] at hll2
        have HLD := Hid.mk' hll2
        have HV := Hid.mk' hvl
        clear hp hrs hdg hcc hll2 hvl
        obtain ⟨⟨c0, c1, c2, c3⟩, cz⟩ := HQ.out.2.2
        go_wp2_with fail
        refine HC.out.mono ?_
        rintro r w2 ⟨rfl, hw2⟩
        obtain rfl := hw2.symm
        clear hw2
        go_wp2_with fail
        refine HLD.out.mono ?_
        rintro r w2 ⟨rfl, hw2⟩
        obtain rfl := hw2.symm
        clear hw2
        have HW1 : Hid (Below w.heap.size w (wr.setCell ⟨w.heap.size + 1, 2, none⟩ (.int .i64 1)) ∧ W4 (wr.setCell ⟨w.heap.size + 1, 2, none⟩ (.int .i64 1)) w.heap.size 0 0 0 0 ∧ W4 (wr.setCell ⟨w.heap.size + 1, 2, none⟩ (.int .i64 1)) (w.heap.size + 1) (cvS s 2 0) (cvS s 2 1) 1 (cvS s 2 3)) := ⟨HQ.out.1.setCell (by simp) _, HQ.out.2.1.other hneB _, HQ.out.2.2.set2 1⟩
        have HA := Hid.mk' (atoiI dg (by omega) _ (HE.out.below HW1.out.1))
        rw [HV.out] at HA
        go_wp2_with fail
        refine HA.out.mono ?_
        rintro r w3 ⟨hb3, hr3⟩
        clear c0 c1 c2 c3 cz
        have HQ3 : Hid (Below w.heap.size w w3 ∧ W4 w3 w.heap.size 0 0 0 0 ∧ W4 w3 (w.heap.size + 1) (cvS s 2 0) (cvS s 2 1) 1 (cvS s 2 3)) := ⟨bel_next HW1.out.1 hb3, HW1.out.2.1.below hb3, HW1.out.2.2.below hb3⟩
        have hfr := fun u => str_from (l := rs) (k := dg.length) hdl u
        obtain ⟨⟨c0, c1, c2, c3⟩, cz⟩ := HQ3.out.2.2
        clear hb3 HW1
        rcases hr3 with rfl | ⟨hv1, v9, t9, N9, rfl⟩
        · have HQ4 : Hid (GQ w w.heap.size (w.heap.size + 1) s 3 (w3.setCell ⟨w.heap.size + 1, 2, none⟩ (.int .i64 vl))) := by
            refine ⟨HQ3.out.1.setCell (by simp) _, HQ3.out.2.1.other hneB _, ?_⟩
            rw [HCV.out.1, HCV.out.2.1, HCV.out.2.2.1, HCV.out.2.2.2, HGC.out, HS.out]
            exact HQ3.out.2.2.set2 vl
          go_wp2
          go_roundw
          case rel => exact ⟨3, rs.drop dg.length, by omega, by go_num, rfl, by rw [HLN.out, HS.out]; exact Hid.mk' rfl, HQ4⟩
          case measure => simp [intOf]
        · have HQ4 : Hid (GQ w w.heap.size (w.heap.size + 1) s 3 w3) := by
            refine ⟨HQ3.out.1, HQ3.out.2.1, ?_⟩
            rw [HCV.out.1, HCV.out.2.1, HCV.out.2.2.1, HCV.out.2.2.2, HGC.out, HS.out, hv1]
            exact HQ3.out.2.2
          clear hv1
          go_wp2
          go_roundw
          case rel => exact ⟨3, rs.drop dg.length, by omega, by go_num, rfl, by rw [HLN.out, HS.out]; exact Hid.mk' rfl, HQ4⟩
          case measure => simp [intOf]
    · have HLN : Hid (glS s 4 = (gst 3 l).1) := by rw [HL.out]; exact Hid.mk' rfl
      have HGC : Hid (gcS s 3 = (gst 3 l).2) := by rw [HL.out]; exact Hid.mk' rfl
      have HCV : Hid (cvS s 4 0 = cvS s 3 0 ∧ cvS s 4 1 = cvS s 3 1 ∧ cvS s 4 2 = cvS s 3 2 ∧ cvS s 4 3 = gcS s 3) := ⟨rfl, rfl, rfl, rfl⟩
      have HZK : Hid (cvS s 3 3 = 0) := Hid.mk' rfl
      cases hp : Lib.hasPrefix l [101]
      · have HS : Hid (gst 3 l = (l, 0)) := Hid.mk' (gst_no (k := 3) hp)
        have HC := Hid.mk' (cut_no hp wr)
        clear hp
        have HQ1 : Hid (GQ w w.heap.size (w.heap.size + 1) s 4 wr) := by
          refine ⟨HQ.out.1, HQ.out.2.1, ?_⟩
          have := HQ.out.2.2
          rw [HCV.out.1, HCV.out.2.1, HCV.out.2.2.1, HCV.out.2.2.2, HGC.out, HS.out]
          rw [HZK.out] at this
          exact this
        go_wp2_with fail
        refine HC.out.mono ?_
        rintro r w2 ⟨rfl, hw2⟩
        obtain rfl := hw2.symm
        clear hw2
        go_wp2
        go_roundw
        case rel => exact ⟨4, l, by omega, by go_num, rfl, by rw [HLN.out, HS.out]; exact Hid.mk' rfl, HQ1⟩
        case measure => simp [intOf]
      · obtain ⟨rs, hrs⟩ : ∃ r, l.drop 1 = r := ⟨_, rfl⟩
        obtain ⟨dg, hdg⟩ : ∃ d, lead rs = d := ⟨_, rfl⟩
        obtain ⟨vl, hvl⟩ : ∃ v, valA dg = v := ⟨_, rfl⟩
        have hrl : rs.length ≤ 40 := by rw [← hrs]; simp; omega
        have hdl : dg.length ≤ rs.length := by rw [← hdg]; exact lead_len rs
        have hdI : (dg.length : Int) ≤ 40 := by omega
        have HS : Hid (gst 3 l = (rs.drop dg.length, vl)) := by have := gst_yes (k := 3) hp; rw [hrs, hdg, hvl] at this; exact Hid.mk' this
        have hcc := cut_yes hp wr
        rw [hrs] at hcc
        have HC := Hid.mk' hcc
        have hll2 := leadI rs (by omega) wr
        rw [hdg] at hll2
        have HLD := Hid.mk' hll2
        have HV := Hid.mk' hvl
        clear hp hrs hdg hcc hll2 hvl
        obtain ⟨⟨c0, c1, c2, c3⟩, cz⟩ := HQ.out.2.2
        go_wp2_with fail
        refine HC.out.mono ?_
        rintro r w2 ⟨rfl, hw2⟩
        obtain rfl := hw2.symm
        clear hw2
        go_wp2_with fail
        refine HLD.out.mono ?_
        rintro r w2 ⟨rfl, hw2⟩
        obtain rfl := hw2.symm
        clear hw2
        have HW1 : Hid (Below w.heap.size w (wr.setCell ⟨w.heap.size + 1, 3, none⟩ (.int .i64 1)) ∧ W4 (wr.setCell ⟨w.heap.size + 1, 3, none⟩ (.int .i64 1)) w.heap.size 0 0 0 0 ∧ W4 (wr.setCell ⟨w.heap.size + 1, 3, none⟩ (.int .i64 1)) (w.heap.size + 1) (cvS s 3 0) (cvS s 3 1) (cvS s 3 2) 1) := ⟨HQ.out.1.setCell (by simp) _, HQ.out.2.1.other hneB _, HQ.out.2.2.set3 1⟩
        have HA := Hid.mk' (atoiI dg (by omega) _ (HE.out.below HW1.out.1))
        rw [HV.out] at HA
        go_wp2_with fail
        refine HA.out.mono ?_
        rintro r w3 ⟨hb3, hr3⟩
        clear c0 c1 c2 c3 cz
        have HQ3 : Hid (Below w.heap.size w w3 ∧ W4 w3 w.heap.size 0 0 0 0 ∧ W4 w3 (w.heap.size + 1) (cvS s 3 0) (cvS s 3 1) (cvS s 3 2) 1) := ⟨bel_next HW1.out.1 hb3, HW1.out.2.1.below hb3, HW1.out.2.2.below hb3⟩
        have hfr := fun u => str_from (l := rs) (k := dg.length) hdl u
        obtain ⟨⟨c0, c1, c2, c3⟩, cz⟩ := HQ3.out.2.2
        clear hb3 HW1
        rcases hr3 with rfl | ⟨hv1, v9, t9, N9, rfl⟩
        · have HQ4 : Hid (GQ w w.heap.size (w.heap.size + 1) s 4 (w3.setCell ⟨w.heap.size + 1, 3, none⟩ (.int .i64 vl))) := by
            refine ⟨HQ3.out.1.setCell (by simp) _, HQ3.out.2.1.other hneB _, ?_⟩
            rw [HCV.out.1, HCV.out.2.1, HCV.out.2.2.1, HCV.out.2.2.2, HGC.out, HS.out]
            exact HQ3.out.2.2.set3 vl
          go_wp2
          go_roundw
          case rel => exact ⟨4, rs.drop dg.length, by omega, by go_num, rfl, by rw [HLN.out, HS.out]; exact Hid.mk' rfl, HQ4⟩
          case measure => simp [intOf]
        · have HQ4 : Hid (GQ w w.heap.size (w.heap.size + 1) s 4 w3) := by
            refine ⟨HQ3.out.1, HQ3.out.2.1, ?_⟩
            rw [HCV.out.1, HCV.out.2.1, HCV.out.2.2.1, HCV.out.2.2.2, HGC.out, HS.out, hv1]
            exact HQ3.out.2.2
          clear hv1
          go_wp2
          go_roundw
          case rel => exact ⟨4, rs.drop dg.length, by omega, by go_num, rfl, by rw [HLN.out, HS.out]; exact Hid.mk' rfl, HQ4⟩
          case measure => simp [intOf]
set_option maxRecDepth 100000 in
set_option maxHeartbeats 4000000 in
theorem monReadI (s : List UInt8) (w : World) (hs : s.length ≤ 1048576) (hE : Er w) :
    Calls Tryz.prog 160 #[.string ⟨s.toArray⟩] w fun r w' => r = .returned (.tuple #[.agg #[.int .i64 (monR s).1.x, .int .i64 (monR s).1.y, .int .i64 (monR s).1.d, .int .i64 (monR s).1.e], .bool (monR s).2]) ∧ Below w.heap.size w w' := by
  have hsI : (s.length : Int) ≤ 1048576 := by omega
  by_cases hl : s.length ≤ 40
  · obtain ⟨g, hg⟩ : ∃ g, guess s = g := ⟨_, rfl⟩
    obtain ⟨S, hS⟩ : ∃ S, monT g = S := ⟨_, rfl⟩
    have b1 := bel_one w (.cells #[.int .i64 0, .int .i64 0, .int .i64 0, .int .i64 0] 77)
    have HC := Hid.mk' (guessI s hl _ (hE.below b1))
    have HR := Hid.mk' (W4.box w 77 0 0 0 0)
    have HB0 := Hid.mk' b1
    have hlI : ¬ (40 : Int) < (s.length : Int) := by omega
    rw [hg] at HC
    clear b1 hE
    rcases g with ⟨x, y, d, e⟩
    have HM : Hid (monR s = if S = s then (⟨x, y, d, e⟩, true) else (⟨0, 0, 0, 0⟩, false)) := by
      unfold monR
      rw [hg, hS]
      by_cases q : S = s
      · rw [if_pos ⟨hl, q⟩, if_pos q]; exact Hid.mk' rfl
      · rw [if_neg (fun z => q z.2), if_neg q]; exact Hid.mk' rfl
    have HSS := Hid.mk' hS
    clear hg hS
    obtain ⟨Rr, hRr⟩ : ∃ R, monR s = R := ⟨_, rfl⟩
    rw [hRr] at HM ⊢
    clear hRr
    go_enter Tryz.func160, Tryz.ntmps160
    go_wp2_with fail
    refine HC.out.mono ?_
    rintro r w1 ⟨rfl, hb1⟩
    have hlt1 : w.heap.size < w1.heap.size := Nat.lt_of_lt_of_le (by simp) hb1.size
    have HR1 := Hid.mk' ((HR.out.below hb1).below (bel_one w1 (.cells #[.int .i64 x, .int .i64 y, .int .i64 d, .int .i64 e] 77)))
    have HX1 := Hid.mk' (W4.box w1 77 x y d e)
    have HB1 := Hid.mk' (bel_next (bel_next HB0.out hb1) (bel_one w1 (.cells #[.int .i64 x, .int .i64 y, .int .i64 d, .int .i64 e] 77)))
    clear hb1 HR HB0 HC
    go_wp2_with fail
    refine (monTextI x y d e _).mono ?_
    rw [HSS.out]
    rintro r w2 ⟨rfl, hb2⟩
    obtain ⟨⟨r0, r1, r2, r3⟩, rz⟩ := HR1.out.below hb2
    obtain ⟨⟨x0, x1, x2, x3⟩, xz⟩ := HX1.out.below hb2
    have HB2 := Hid.mk' (bel_next HB1.out hb2)
    have hne1 : w.heap.size ≠ w1.heap.size := by omega
    have hne2 : w1.heap.size ≠ w.heap.size := by omega
    clear hb2
    by_cases q : S = s
    · have HM2 : Hid (Rr = (⟨x, y, d, e⟩, true)) := by rw [HM.out, if_pos q]; exact Hid.mk' rfl
      clear HM HSS
      subst q
      go_wp2
      refine bodyPost_ret (v := .tuple #[.agg #[.int .i64 x, .int .i64 y, .int .i64 d, .int .i64 e], .bool true]) (by simp [results, Tryz.results160, go_sem, *]) rfl ⟨by rw [HM2.out], ?_⟩
      exact (((HB2.out.setCell (Nat.le_refl _) _).setCell (Nat.le_refl _) _).setCell (Nat.le_refl _) _).setCell (Nat.le_refl _) _
    · have HM2 : Hid (Rr = (⟨0, 0, 0, 0⟩, false)) := by rw [HM.out, if_neg q]; exact Hid.mk' rfl
      clear HM HSS
      have q1 : (S == s) = false := beq_eq_false_iff_ne.2 q
      go_wp2
      refine bodyPost_ret (v := .tuple #[.agg #[.int .i64 0, .int .i64 0, .int .i64 0, .int .i64 0], .bool false]) (by simp [results, Tryz.results160, go_sem, *]) rfl ⟨by rw [HM2.out], ?_⟩
      exact (((HB2.out.setCell (Nat.le_refl _) _).setCell (Nat.le_refl _) _).setCell (Nat.le_refl _) _).setCell (Nat.le_refl _) _
  · have hlI : (40 : Int) < (s.length : Int) := by omega
    have hM : monR s = (⟨0, 0, 0, 0⟩, false) := by unfold monR; rw [if_neg (fun z => hl z.1)]
    rw [hM]
    clear hM
    go_enter Tryz.func160, Tryz.ntmps160
    go_wp2
    refine bodyPost_ret (v := .tuple #[.agg #[.int .i64 0, .int .i64 0, .int .i64 0, .int .i64 0], .bool false]) (by simp [results, Tryz.results160, go_sem]) rfl ⟨rfl, ?_⟩
    first | exact bel_one w _ | exact ((((bel_one w _).setCell (Nat.le_refl _) _).setCell (Nat.le_refl _) _).setCell (Nat.le_refl _) _).setCell (Nat.le_refl _) _
end Go.Proofs.YtkcmamepoplcdaaGreatDoor
