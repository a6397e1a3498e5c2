/-
  An operator that is ok falls.
  What the drawing functions return: the reader's pick is a number below its bound, and writes the reader's place alone; what is drawn is some number that fits its kind.
  A region that draws its order, by an invariant: what holds of the frame and the world whatever has been done so far.
-/
import Derived.Test.YtmlaedpamobmhabGag
import Derived.Test.YtmlaedpamobmhabRows
import Derived.WalkKit
import Derived.Deep.QuietTactic
import Derived.BigQuiet
import Derived.Deep.RegionWith
import Derived.WalkSmall
import Derived.Orders
namespace Go.Proofs.Ytmlaedpamobmhab
open Go.RowKit
set_option linter.unusedVariables false

theorem fl_of_ok {n : Nat} {f : Nat → T} (h : polOk n f = true) : Fl f n := by
  have hp := h
  simp only [polOk, decide_eq_true_eq] at hp
  have h1 : ∀ i, i < n → (f i).m.ok = true ∧ 1 ≤ (f i).c ∧ (f i).c ≤ 100 := fun i hi => by
    have := hp.2 i hi
    simp only [okAt, Bool.and_eq_true, decide_eq_true_eq] at this
    exact ⟨this.1.2, this.1.1⟩
  refine ⟨fun j i hji hi => ?_, h1⟩
  induction i with
  | zero => omega
  | succ i ih =>
    have h2 := hp.2 (i + 1) hi
    simp only [okAt, Bool.and_eq_true, Bool.or_eq_true, decide_eq_true_eq] at h2
    have h3 := h2.2.resolve_left (by omega)
    rw [show i + 1 - 1 = i by omega] at h3
    have h4 := (ord_pos (h1 i (by omega)).1 (h1 (i + 1) hi).1).1 h3
    by_cases hji2 : j = i
    · rw [hji2]; exact h4
    · have := ih (by omega) (by omega)
      omega
end Go.Proofs.Ytmlaedpamobmhab
namespace Go.Proofs.Ytmlaedpamobmhab
open Go.RowKit
set_option linter.unusedVariables false

theorem xor_nn (x y : Int) (hx : 0 ≤ x) (hx' : x < 1099511627776) (hy : 0 ≤ y) (hy' : y < 1099511627776) : 0 ≤ bits .xor .i64 x y := by
  obtain ⟨a, rfl⟩ := Int.eq_ofNat_of_zero_le hx
  obtain ⟨b, rfl⟩ := Int.eq_ofNat_of_zero_le hy
  have hab : a ^^^ b < 2 ^ 40 := Nat.xor_lt_two_pow (by omega) (by omega)
  have h1 : (BitVec.ofInt 64 (a : Int)).toNat = a := by
    rw [BitVec.ofInt_natCast, BitVec.toNat_ofNat]; exact Nat.mod_eq_of_lt (by omega)
  have h2 : (BitVec.ofInt 64 (b : Int)).toNat = b := by
    rw [BitVec.ofInt_natCast, BitVec.toNat_ofNat]; exact Nat.mod_eq_of_lt (by omega)
  show 0 ≤ IntKind.i64.wrap ((BitVec.ofInt 64 (a : Int) ^^^ BitVec.ofInt 64 (b : Int)).toNat : Int)
  rw [BitVec.toNat_xor, h1, h2]
  simp only [IntKind.wrap, IntKind.bits, IntKind.signed]
  generalize a ^^^ b = c at hab
  have hc : (c : Int) < 1099511627776 := by omega
  simp
  omega
theorem tmod_bd {x n : Int} (hx : 0 ≤ x) (hn : 1 ≤ n) : 0 ≤ x.tmod n ∧ x.tmod n < n := by
  rw [Int.tmod_eq_emod_of_nonneg hx]
  exact ⟨Int.emod_nonneg _ (by omega), Int.emod_lt_of_pos _ (by omega)⟩

set_option maxHeartbeats 1000000 in
theorem pick_in (w : World) (B bb off len cap p : Nat) (n : Int) (z : Nat → Int)
    (hc0 : w.cell? ⟨B, 0, none⟩ = some (.slice (some ⟨bb, off, none⟩) len cap))
    (hc1 : w.cell? ⟨B, 1, none⟩ = some (.int .i64 p))
    (hf : w.frozen? ⟨B, 1, none⟩ = false)
    (hbb : bb < B) (hz : ∀ i, i < len → w.cell? ⟨bb, off + i, none⟩ = some (.int .u8 (z i)))
    (hz0 : ∀ i, 0 ≤ z i) (hz1 : ∀ i, z i ≤ 255)
    (hl : len ≤ 2000) (hn : 1 ≤ n) (hn' : n ≤ 100000) (hp : p < len) :
    Calls Try.prog 29 #[.pointer (some ⟨B, 0, none⟩), .int .i64 n] w fun e w' => ∃ v, e = .returned (.int .i64 v) ∧ 0 ≤ v ∧ v < n ∧ ∃ nq, w' = (w.setCell ⟨B, 1, none⟩ (.int .i64 (p + 1))).drewN nq := by
  have hne : ¬ bb = B := by omega
  have hl0 : ((len : Int) == 0) = false := by simp; omega
  have hpl : (p : Int) < (len : Int) := by omega
  have hcp := hz p hp
  have z0 := hz0 p
  have z1 := hz1 p
  have hm0 := Int.emod_nonneg (z p) (show n ≠ 0 by omega)
  have hm1 := Int.emod_lt_of_pos (z p) (show 0 < n by omega)
  clear hz hz0 hz1
  go_enter Try.func29, Try.ntmps29
  go_wp2
  go_ret
  exact ⟨_, rfl, hm0, hm1, 0, rfl⟩
set_option maxHeartbeats 1000000 in
theorem pick_none (w : World) (B cap p : Nat) (a : Option Addr) (n : Int)
    (hc0 : w.cell? ⟨B, 0, none⟩ = some (.slice a 0 cap))
    (hc1 : w.cell? ⟨B, 1, none⟩ = some (.int .i64 p))
    (hf : w.frozen? ⟨B, 1, none⟩ = false) (hn : 1 ≤ n) (hp : (p : Int) ≤ 100000) :
    Calls Try.prog 29 #[.pointer (some ⟨B, 0, none⟩), .int .i64 n] w fun e w' => ∃ v, e = .returned (.int .i64 v) ∧ 0 ≤ v ∧ v < n ∧ ∃ nq, w' = (w.setCell ⟨B, 1, none⟩ (.int .i64 (p + 1))).drewN nq := by
  go_enter Try.func29, Try.ntmps29
  go_wp2
  go_ret
  exact ⟨_, rfl, by omega, by omega, 0, rfl⟩

set_option maxHeartbeats 1000000 in
theorem pick_past (w : World) (B bb off len cap p : Nat) (n : Int) (z : Nat → Int)
    (hc0 : w.cell? ⟨B, 0, none⟩ = some (.slice (some ⟨bb, off, none⟩) len cap))
    (hc1 : w.cell? ⟨B, 1, none⟩ = some (.int .i64 p))
    (hf : w.frozen? ⟨B, 1, none⟩ = false)
    (hbb : bb < B) (hz : ∀ i, i < len → w.cell? ⟨bb, off + i, none⟩ = some (.int .u8 (z i)))
    (hz0 : ∀ i, 0 ≤ z i) (hz1 : ∀ i, z i ≤ 255)
    (hl : len ≤ 2000) (hn : 1 ≤ n) (hn' : n ≤ 100000) (hp : len ≤ p) (h0 : 0 < len) (hp' : (p : Int) ≤ 100000) :
    Calls Try.prog 29 #[.pointer (some ⟨B, 0, none⟩), .int .i64 n] w fun e w' => ∃ v, e = .returned (.int .i64 v) ∧ 0 ≤ v ∧ v < n ∧ ∃ nq, w' = (w.setCell ⟨B, 1, none⟩ (.int .i64 (p + 1))).drewN nq := by
  have hne : ¬ bb = B := by omega
  have hl0 : ((len : Int) == 0) = false := by simp; omega
  have hlp : (0 : Int) < (len : Int) := by omega
  have hl2 : (len : Int) ≤ 2000 := by omega
  have hpl : (len : Int) ≤ (p : Int) := by omega
  have i1 := Int.emod_nonneg (p : Int) (show (len : Int) ≠ 0 by omega)
  have i2 := Int.emod_lt_of_pos (p : Int) hlp
  have j1 := Int.emod_nonneg ((p : Int) * 7 + 3) (show (len : Int) ≠ 0 by omega)
  have j2 := Int.emod_lt_of_pos ((p : Int) * 7 + 3) hlp
  have q1 : 0 ≤ (p : Int) / (len : Int) := Int.ediv_nonneg (by omega) (by omega)
  have q2 : (p : Int) / (len : Int) ≤ 100000 := Int.le_trans (Int.ediv_le_self _ (by omega)) hp'
  have hci := hz (p % len) (Nat.mod_lt _ h0)
  have hcj := hz ((p * 7 + 3) % len) (Nat.mod_lt _ h0)
  have zi0 := hz0 (p % len)
  have zi1 := hz1 (p % len)
  have zj0 := hz0 ((p * 7 + 3) % len)
  have zj1 := hz1 ((p * 7 + 3) % len)
  clear hz hz0 hz1
  go_enter Try.func29, Try.ntmps29
  go_wp2
  go_quiet (fail)
  go_wp2
  go_ret
  exact ⟨_, rfl, (tmod_bd (xor_nn _ _ (by omega) (by omega) (by omega) (by omega)) hn).1, (tmod_bd (xor_nn _ _ (by omega) (by omega) (by omega) (by omega)) hn).2, _, rfl⟩

/-- The reader at block B stands at place p over some bytes that lie below B; its place may be written. -/
def Rdr (w : World) (B p : Nat) : Prop :=
  w.cell? ⟨B, 1, none⟩ = some (.int .i64 p) ∧ w.frozen? ⟨B, 1, none⟩ = false ∧
  ∃ (a : Option Addr) (len cap : Nat), w.cell? ⟨B, 0, none⟩ = some (.slice a len cap) ∧ len ≤ 2000 ∧
    (len = 0 ∨ ∃ (bb off : Nat) (z : Nat → Int), a = some ⟨bb, off, none⟩ ∧ bb < B ∧ (∀ i, i < len → w.cell? ⟨bb, off + i, none⟩ = some (.int .u8 (z i))) ∧ (∀ i, 0 ≤ z i) ∧ ∀ i, z i ≤ 255)
/-- What a pick does to the world: the reader's place goes on by one. -/
def Picked (w w' : World) (B p : Nat) : Prop := ∃ nq, w' = (w.setCell ⟨B, 1, none⟩ (.int .i64 ((p + 1 : Nat) : Int))).drewN nq
theorem pick_any (w : World) (B p : Nat) (n : Int) (h : Rdr w B p) (hn : 1 ≤ n) (hn' : n ≤ 100000) (hp : (p : Int) ≤ 100000) :
    Calls Try.prog 29 #[.pointer (some ⟨B, 0, none⟩), .int .i64 n] w fun e w' => ∃ v, e = .returned (.int .i64 v) ∧ 0 ≤ v ∧ v < n ∧ Picked w w' B p := by
  obtain ⟨hc1, hf, a, len, cap, hc0, hl, h0⟩ := h
  have key : ∀ e w', (∃ v, e = Ending.returned (.int .i64 v) ∧ 0 ≤ v ∧ v < n ∧ ∃ nq, w' = (w.setCell ⟨B, 1, none⟩ (.int .i64 (p + 1))).drewN nq) → ∃ v, e = .returned (.int .i64 v) ∧ 0 ≤ v ∧ v < n ∧ Picked w w' B p := by
    rintro e w' ⟨v, h1, h2, h3, nq, h4⟩
    exact ⟨v, h1, h2, h3, nq, by rw [h4]; rfl⟩
  by_cases hz : len = 0
  · subst hz
    exact (pick_none w B cap p a n hc0 hc1 hf hn hp).mono key
  · obtain ⟨bb, off, z, rfl, hbb, hb, z0, z1⟩ := h0.resolve_left hz
    by_cases hpl : p < len
    · exact (pick_in w B bb off len cap p n z hc0 hc1 hf hbb hb z0 z1 hl hn hn' hpl).mono key
    · exact (pick_past w B bb off len cap p n z hc0 hc1 hf hbb hb z0 z1 hl hn hn' (by omega) (by omega) hp).mono key

/-- All blocks but B are as they were; the streams too. -/
structure Beside (B : Nat) (w w' : World) : Prop where
  os : w'.os = w.os
  tape : w'.tape = w.tape
  output : w'.output = w.output
  size : w.heap.size ≤ w'.heap.size
  block : ∀ k, k < w.heap.size → k ≠ B → w'.heap[k]? = w.heap[k]?
theorem Beside.refl (B : Nat) (w : World) : Beside B w w := ⟨rfl, rfl, rfl, Nat.le_refl _, fun _ _ _ => rfl⟩
theorem Beside.trans {B : Nat} {a b c : World} (h : Beside B a b) (k : Beside B b c) : Beside B a c :=
  ⟨k.os.trans h.os, k.tape.trans h.tape, k.output.trans h.output, Nat.le_trans h.size k.size, fun i hi hn => (k.block i (Nat.lt_of_lt_of_le hi h.size) hn).trans (h.block i hi hn)⟩
theorem Beside.alloc {B : Nat} {a w : World} (h : Beside B a w) (o : Obj) : Beside B a (w.alloc o) :=
  h.trans ⟨rfl, rfl, rfl, by simp, fun k hk _ => Below.heap_alloc _ _ _ hk⟩
theorem Beside.drewN {B : Nat} {a w : World} (h : Beside B a w) (n : Nat) : Beside B a (w.drewN n) := h.trans ⟨rfl, rfl, rfl, Nat.le_refl _, fun _ _ _ => rfl⟩
theorem Beside.cell {B : Nat} {w w' : World} (h : Beside B w w') {b o : Nat} (hb : b < w.heap.size) (hn : b ≠ B) : w'.cell? ⟨b, o, none⟩ = w.cell? ⟨b, o, none⟩ :=
  World.cell?_of_block (w := w) (h.block b hb hn)
theorem Beside.below {B n : Nat} {a w w' : World} (k : Below n a w) (h : Beside B w w') (hB : n ≤ B) (hn : n ≤ w.heap.size) : Below n a w' :=
  k.trans ⟨h.os, h.tape, h.output, h.size, fun k hk => h.block k (by omega) (by omega)⟩
theorem Picked.beside {w w' : World} {B p : Nat} (h : Picked w w' B p) : Beside B w w' := by
  obtain ⟨nq, rfl⟩ := h
  have h : Beside B w (w.setCell ⟨B, 1, none⟩ (.int .i64 ((p + 1 : Nat) : Int))) := ⟨rfl, rfl, rfl, by simp [World.setCell], fun k _ hk => Below.heap_setCell _ _ _ _ hk⟩
  exact h.drewN nq
theorem Rdr.lt {w : World} {B p : Nat} (h : Rdr w B p) : B < w.heap.size := World.block_lt_of_cell? w _ h.1
theorem Picked.rdr {w w' : World} {B p : Nat} (hp : Picked w w' B p) (h : Rdr w B p) : Rdr w' B (p + 1) := by
  have hb := hp.beside
  have hlt := h.lt
  obtain ⟨nq, rfl⟩ := hp
  obtain ⟨hc1, hf, a, len, cap, hc0, hl, h0⟩ := h
  refine ⟨by go_simp, by go_simp, a, len, cap, by go_simp, hl, ?_⟩
  rcases h0 with h0 | ⟨bb, off, z, rfl, hbb, hz, z0, z1⟩
  · exact .inl h0
  · exact .inr ⟨bb, off, z, rfl, hbb, fun i hi => by rw [hb.cell (by omega) (by omega)]; exact hz i hi, z0, z1⟩
theorem Rdr.alloc {w : World} {B p : Nat} (h : Rdr w B p) (o : Obj) : Rdr (w.alloc o) B p := by
  have hlt := h.lt
  obtain ⟨hc1, hf, a, len, cap, hc0, hl, h0⟩ := h
  refine ⟨by rw [World.cell?_alloc_past o B 1 hlt]; exact hc1, by rw [World.frozen?_alloc_past o B 1 hlt]; exact hf, a, len, cap, by rw [World.cell?_alloc_past o B 0 hlt]; exact hc0, hl, ?_⟩
  rcases h0 with h0 | ⟨bb, off, z, rfl, hbb, hz, z0, z1⟩
  · exact .inl h0
  · exact .inr ⟨bb, off, z, rfl, hbb, fun i hi => by rw [World.cell?_alloc_past o bb _ (by omega)]; exact hz i hi, z0, z1⟩
theorem Rdr.drewN {w : World} {B p : Nat} (h : Rdr w B p) (n : Nat) : Rdr (w.drewN n) B p := h


/-- A slice of bytes that came in: empty, or its bytes lie in a block that is there. -/
def Src (w : World) (a : Option Addr) (len cap : Nat) : Prop :=
  len ≤ cap ∧ cap ≤ maxLen ∧ (len = 0 ∨ ∃ (bb off : Nat) (z : Nat → Int), a = some ⟨bb, off, none⟩ ∧ bb < w.heap.size ∧ (∀ i, i < len → w.cell? ⟨bb, off + i, none⟩ = some (.int .u8 (z i))) ∧ (∀ i, 0 ≤ z i) ∧ ∀ i, z i ≤ 255)
theorem Src.below {w w' : World} {a : Option Addr} {len cap : Nat} (h : Src w a len cap) (hb : Below w.heap.size w w') : Src w' a len cap := by
  obtain ⟨h1, h2, h3⟩ := h
  refine ⟨h1, h2, ?_⟩
  rcases h3 with h0 | ⟨bb, off, z, rfl, hbb, hz, z0, z1⟩
  · exact .inl h0
  · exact .inr ⟨bb, off, z, rfl, Nat.lt_of_lt_of_le hbb hb.size, fun i hi => by rw [hb.cell (p := ⟨bb, off + i, none⟩) hbb]; exact hz i hi, z0, z1⟩

/-- A reader in a new block. -/
theorem rdr_new (w : World) (a : Option Addr) (len cap : Nat) (t : TypeId) (hl : len ≤ 2000)
    (h : len = 0 ∨ ∃ (bb off : Nat) (z : Nat → Int), a = some ⟨bb, off, none⟩ ∧ bb < w.heap.size ∧ (∀ i, i < len → w.cell? ⟨bb, off + i, none⟩ = some (.int .u8 (z i))) ∧ (∀ i, 0 ≤ z i) ∧ ∀ i, z i ≤ 255) :
    Rdr (w.alloc (.cells #[.slice a len cap, .int .i64 0] t)) w.heap.size 0 := by
  refine ⟨by rw [World.cell?_alloc_at _ _ _ _ rfl]; rfl, by rw [World.frozen?_alloc_at _ _ _ _ rfl], a, len, cap, by rw [World.cell?_alloc_at _ _ _ _ rfl]; rfl, hl, ?_⟩
  rcases h with h0 | ⟨bb, off, z, rfl, hbb, hz, z0, z1⟩
  · exact .inl h0
  · exact .inr ⟨bb, off, z, rfl, hbb, fun i hi => by rw [World.cell?_alloc_past _ bb _ hbb]; exact hz i hi, z0, z1⟩
theorem open_any (w : World) (a : Option Addr) (len cap : Nat) (h : Src w a len cap) :
    Calls Try.prog 20 #[.slice a len cap] w fun e w' => e = .returned (.pointer (some ⟨w.heap.size, 0, none⟩)) ∧ Rdr w' w.heap.size 0 ∧ Below w.heap.size w w' := by
  obtain ⟨h1, h2, h3⟩ := h
  unfold maxLen at h2
  by_cases hl : len ≤ 2000
  · have hl' : (len : Int) ≤ 2000 := by omega
    go_enter Try.func20, Try.ntmps20
    go_wp2
    go_ret
    exact ⟨rfl, rdr_new w a len cap _ hl h3, (Below.refl _ _).alloc (Nat.le_refl _) _⟩
  · have hl' : (2000 : Int) < (len : Int) := by omega
    have hc' : (2000 : Int) ≤ (cap : Int) := by omega
    rcases h3 with h0 | ⟨bb, off, z, rfl, hbb, hz, z0, z1⟩
    · omega
    · have hn := rdr_new w (some ⟨bb, off, none⟩) 2000 cap 71 (Nat.le_refl _) (.inr ⟨bb, off, z, rfl, hbb, fun i hi => hz i (by omega), z0, z1⟩)
      clear hz z0 z1
      go_enter Try.func20, Try.ntmps20
      go_wp2
      go_ret
      exact ⟨rfl, hn, (Below.refl _ _).alloc (Nat.le_refl _) _⟩

/-- The reader that a draw over the world w0 has made, and nothing of w0 has turned. -/
def RB (w0 W : World) (p : Nat) : Prop := Rdr W w0.heap.size p ∧ Below w0.heap.size w0 W
theorem RB.alloc {w0 W : World} {p : Nat} (h : RB w0 W p) (o : Obj) : RB w0 (W.alloc o) p := ⟨h.1.alloc o, h.2.alloc h.2.size o⟩
theorem RB.drewN {w0 W : World} {p : Nat} (h : RB w0 W p) (n : Nat) : RB w0 (W.drewN n) p := ⟨h.1, below_drewN h.2 n⟩
theorem RB.drew {w0 W : World} {p : Nat} (h : RB w0 W p) : RB w0 W.drew p := h.drewN 1
theorem RB.lt {w0 W : World} {p : Nat} (h : RB w0 W p) : w0.heap.size < W.heap.size := h.1.lt
theorem pick_rb (w0 W : World) (p : Nat) (n : Int) (h : RB w0 W p) (hn : 1 ≤ n) (hn' : n ≤ 100000) (hp : (p : Int) ≤ 100000) :
    Calls Try.prog 29 #[.pointer (some ⟨w0.heap.size, 0, none⟩), .int .i64 n] W fun e w' => ∃ v, e = .returned (.int .i64 v) ∧ 0 ≤ v ∧ v < n ∧ RB w0 w' (p + 1) ∧ (∀ b o, b < W.heap.size → ¬ b = w0.heap.size → w'.cell? ⟨b, o, none⟩ = W.cell? ⟨b, o, none⟩) ∧ W.heap.size ≤ w'.heap.size ∧ ¬ w'.heap.size = w0.heap.size := by
  refine (pick_any W w0.heap.size p n h.1 hn hn' hp).mono ?_
  rintro e w' ⟨v, h1, h2, h3, k⟩
  have r := k.rdr h.1
  have s := k.beside
  have l := r.lt
  exact ⟨v, h1, h2, h3, ⟨r, s.below h.2 (Nat.le_refl _) h.2.size⟩, fun b o hb hn => s.cell hb hn, s.size, by omega⟩

end Go.Proofs.Ytmlaedpamobmhab
namespace Go.Proofs.Ytmlaedpamobmhab
open Go.RowKit

/-- how many operations are not yet done. -/
def undone (l : Array Bool) : Nat := (l.toList.filter (fun b => b == false)).length
theorem undone_list : ∀ (l : List Bool) (i : Nat), l[i]? = some false → ((l.set i true).filter (fun b => b == false)).length + 1 = (l.filter (fun b => b == false)).length
  | [], i, h => by simp at h
  | b :: r, 0, h => by
    simp at h
    subst h
    simp
  | b :: r, i + 1, h => by
    have ih := undone_list r i (by simpa using h)
    cases b <;> simp at ih ⊢ <;> omega
theorem undone_set {l : Array Bool} {i : Nat} (h : l[i]? = some false) : undone (l.setIfInBounds i true) + 1 = undone l := by
  unfold undone
  rw [Array.toList_setIfInBounds]
  exact undone_list _ _ (by simpa using h)
theorem undone_none_list : ∀ (l : List Bool), (l.filter (fun b => b == false)).length = 0 → ∀ i : Nat, l[i]? ≠ some false
  | [], _, i, h => by simp at h
  | b :: r, hl, 0, h => by
    simp at h
    subst h
    simp at hl
  | b :: r, hl, i + 1, h => by
    refine undone_none_list r ?_ i (by simpa using h)
    cases b <;> simp at hl ⊢
    exact hl
theorem getD_false {l : Array Bool} {i : Nat} (h : l.getD i true = false) : l[i]? = some false := by
  rw [Array.getD_eq_getD_getElem?] at h
  cases hx : l[i]? with
  | none => rw [hx] at h; simp at h
  | some b => rw [hx] at h; simp at h; rw [h]
theorem wpAny_inv {P : Program} {md : Region.Mode} {ops : Array Oper} {Q : Exit → Act → World → Prop} {I : Array Bool → Act → World → Prop}
    (hs : ∀ l a w, I l a w → ∀ i ∈ Region.ready md ops l, wpOp P ops Q i (I (l.setIfInBounds i true)) a w)
    (he : ∀ l a w, I l a w → Region.ready md ops l = [] → Q .normal a w) :
    ∀ (fuel : Nat) (l : Array Bool) (a : Act) (w : World), undone l ≤ fuel → I l a w → wpAny P md ops Q fuel l a w
  | 0, l, a, w, hf, hI => by
    have hr : Region.ready md ops l = [] := by
      rw [List.eq_nil_iff_forall_not_mem]
      intro i hi
      have h0 := getD_false (mem_ready.1 hi).1
      exact undone_none_list l.toList (by unfold undone at hf; omega) i (by simpa using h0)
    exact ⟨hr, he l a w hI hr⟩
  | fuel + 1, l, a, w, hf, hI => by
    refine ⟨fun hr => he l a w hI hr, fun i hi => ?_⟩
    have h0 := getD_false (mem_ready.1 hi).1
    have h1 := undone_set h0
    exact wpOp_mono (fun a' w' h => wpAny_inv hs he fuel _ a' w' (by omega) h) (hs l a w hI i hi)
theorem undone_replicate (n : Nat) : undone (Array.replicate n false) = n := by
  unfold undone; simp
/-- .. and so the region. -/
theorem wp_region_inv {P : Program} {id : Nat} {ops : Array Oper} {Q : Exit → Act → World → Prop} {I : Array Bool → Act → World → Prop} {a : Act} {w : World} (hm : P.follows .mixedOrders = true)
    (h0 : I (Array.replicate ops.size false) a w.drew)
    (hs : ∀ l a w, I l a w → ∀ i ∈ Region.ready .any ops l, wpOp P ops Q i (I (l.setIfInBounds i true)) a w)
    (he : ∀ l a w, I l a w → Region.ready .any ops l = [] → Q .normal a w) : (Code.region id ops true).wp P Q a w :=
  wp_region_any hm (wpAny_inv hs he ops.size _ a _ (by rw [undone_replicate]; exact Nat.le_refl _) h0)
end Go.Proofs.Ytmlaedpamobmhab
