/-
  The program reads monomials (leadingDigits, monGuess, MonRead).
  Rows of texts.
  What the drawing functions return: the reader's pick is a number below its bound, and writes the reader's place alone; what is drawn is some number that fits its kind.
-/
import Derived.Test.YtoglomfejgpoeaaGreatDoorGad
import Derived.Test.YtoglomfejgpoeaaGreatDoorGag
import Derived.Shelf.Lay
import Derived.Shelf.Small.Wraps
import Derived.Shelf.Strconv.AtoiAll
import Derived.Shelf.Strconv.ErrVarAll
import Derived.Ground.NamesProg
import Derived.Test.YtoglomfejgpoeaaGreatDoorGaf
import Derived.Laws.MakeOwn
import Derived.Test.YtoglomfejgpoeaaGreatDoorRows
import Derived.WalkKit
import Derived.Deep.QuietTactic
import Derived.BigQuiet
import Derived.Deep.RegionWith
import Derived.WalkSmall
namespace Go.Proofs.YtoglomfejgpoeaaGreatDoor
open Go.Shelf Go.RowKit
set_option linter.unusedVariables false
set_option linter.unusedSimpArgs false

theorem ba_size (l : List UInt8) : (⟨l.toArray⟩ : ByteArray).size = l.length := by simp [ByteArray.size]
theorem str_index {l : List UInt8} {k : Nat} {c : UInt8} (h : l[k]? = some c) (u : World) : (Instr.index 9 (.string ⟨l.toArray⟩) (.int .i64 (k : Int))).run Tryz.prog u = .ok (.int .u8 (c.toNat : Int)) u := by
  obtain ⟨hk, e⟩ := List.getElem?_eq_some_iff.1 h
  rw [run_index_string _ _ _ _ _ Tryz.underlying9, dif_pos ⟨by omega, by rw [ba_size]; omega⟩]
  subst e
  rfl
theorem str_to {l : List UInt8} {k : Nat} (h : k ≤ l.length) (u : World) : (Instr.slice 9 (.string ⟨l.toArray⟩) none (some (.int .i64 (k : Int))) none).run Tryz.prog u = .ok (.string ⟨(l.take k).toArray⟩) u := by
  rw [run_slice_string_to_if _ _ _ _ _ Tryz.underlying9, if_pos ⟨by omega, by rw [ba_size]; omega⟩]
  congr 2
  apply ByteArray.ext
  simp
theorem str_from {l : List UInt8} {k : Nat} (h : k ≤ l.length) (u : World) : (Instr.slice 9 (.string ⟨l.toArray⟩) (some (.int .i64 (k : Int))) none none).run Tryz.prog u = .ok (.string ⟨(l.drop k).toArray⟩) u := by
  rw [run_slice_string_from_if _ _ _ _ _ Tryz.underlying9, if_pos ⟨by omega, by rw [ba_size]; omega⟩]
  congr 2
  apply ByteArray.ext
  simp [ba_size]
  exact List.take_of_length_le (by simp)
theorem lead_take {l : List UInt8} {k : Nat} (h1 : ∀ j c, j < k → l[j]? = some c → isD c = true) (h2 : ∀ c, l[k]? = some c → isD c = false) (hk : k ≤ l.length) : l.take k = lead l := by
  have e : l = l.take k ++ l.drop k := (List.take_append_drop k l).symm
  have := lead_app (d := l.take k) (t := l.drop k) (fun c hc => by
    obtain ⟨j, hj, e⟩ := List.getElem_of_mem hc
    rw [List.length_take] at hj
    exact h1 j c (by omega) (by rw [← e, List.getElem_take]; exact List.getElem?_eq_getElem _)) (fun c r e => h2 c (by
      have : (l.drop k)[0]? = some c := by rw [e]; rfl
      rw [List.getElem?_drop] at this
      simpa using this))
  rw [← e] at this
  exact this.symm
set_option maxRecDepth 100000 in
set_option maxHeartbeats 2000000 in
theorem leadI (l : List UInt8) (hl : l.length ≤ 1000000) (w : World) :
    Calls Tryz.prog 185 #[.string ⟨l.toArray⟩] w fun r w' => r = .returned (.string ⟨(lead l).toArray⟩) ∧ w' = w := by
  go_enter Tryz.func185, Tryz.ntmps185
  go_wp2
  go_loop [3] (fun v => ∃ k : Nat, k ≤ l.length ∧ v = .int .i64 (k : Int) ∧ Hid (∀ j c, j < k → l[j]? = some c → isD c = true)) (fun v => l.length - (intOf v).toNat)
  case atStart => exact ⟨0, Nat.zero_le _, rfl, fun j c hj => by omega⟩
  case round =>
    obtain ⟨k, hk, rfl, HD⟩ := hrel
    have hlI : (l.length : Int) ≤ 1000000 := by omega
    by_cases hkl : k < l.length
    · have hkI : (k : Int) < (l.length : Int) := by omega
      obtain ⟨c, hc⟩ : ∃ c, l[k]? = some c := ⟨_, List.getElem?_eq_getElem hkl⟩
      have hix := str_index hc
      have HC := Hid.mk' hc
      clear hc
      obtain ⟨z, hz⟩ : ∃ z : Nat, c.toNat = z := ⟨_, rfl⟩
      have hdz : isD c = decide (48 ≤ z ∧ z ≤ 57) := by unfold isD; rw [hz]
      have HDZ := Hid.mk' hdz
      rw [hz] at hix
      clear hz hdz
      have fin : ¬ (48 ≤ z ∧ z ≤ 57) → Hid (l.take k = lead l) := fun hn => Hid.mk' (lead_take HD.out (fun c' hc' => by
        have e := HC.out.symm.trans hc'
        cases e
        rw [HDZ.out]; exact decide_eq_false hn) hk)
      have hto := fun u => str_to (l := l) (k := k) hk u
      by_cases h1 : 48 ≤ z
      · have h1I : (48 : Int) ≤ (z : Int) := by omega
        by_cases h2 : z ≤ 57
        · have h2I : (z : Int) ≤ 57 := by omega
          have HN : Hid (∀ j c, j < k + 1 → l[j]? = some c → isD c = true) := fun j c' hj hc' => by
            by_cases e : j = k
            · subst e
              have e := HC.out.symm.trans hc'
              cases e
              rw [HDZ.out]; exact decide_eq_true ⟨h1, h2⟩
            · exact HD.out j c' (by omega) hc'
          clear fin hto
          go_wp2
          go_round
          case rel => exact ⟨k + 1, by omega, by go_num, HN⟩
          case measure => simp [intOf]; omega
        · have h2I : ¬ (z : Int) ≤ 57 := by omega
          have HF := fin (fun q => h2 q.2)
          clear fin
          go_wp2
          go_ret
          exact ⟨by rw [← HF.out]; rfl, rfl⟩
      · have h1I : ¬ (48 : Int) ≤ (z : Int) := by omega
        have HF := fin (fun q => h1 q.1)
        clear fin
        go_wp2
        go_ret
        exact ⟨by rw [← HF.out]; rfl, rfl⟩
    · have hke : k = l.length := by omega
      have hnl : ¬ (k : Int) < (l.length : Int) := by omega
      have HF : Hid (l.take k = lead l) := Hid.mk' (lead_take HD.out (fun c hc => by
        have := (List.getElem?_eq_some_iff.1 hc).1
        omega) hk)
      have hto := fun u => str_to (l := l) (k := k) hk u
      clear hke
      go_wp2
      go_ret
      exact ⟨by rw [← HF.out]; rfl, rfl⟩
end Go.Proofs.YtoglomfejgpoeaaGreatDoor
namespace Go.Proofs.YtoglomfejgpoeaaGreatDoor
open Go.RowKit
set_option linter.unusedVariables false
theorem infoSt : (Tryz.prog.info? 9).map (fun i => (i.zero, i.size, i.bytes)) = some (some (.string ⟨#[]⟩), 1, 16) := by kernel_rfl
def stL (xs : List (List UInt8)) : List Value := xs.map fun l => Value.string ⟨l.toArray⟩
theorem stL_len (xs : List (List UInt8)) : (stL xs).length = xs.length := by simp [stL]
theorem stL_app (a b : List (List UInt8)) : stL (a ++ b) = stL a ++ stL b := by simp [stL]
theorem one_st (s : ByteArray) : ∀ u ∈ [Value.string s], u.oneCell' = true := fun u hu => by
  rw [List.mem_singleton] at hu
  subst hu
  rfl
/-- a row of texts in a block of its own. -/
abbrev OwT (lo : Nat) (v : Value) (xs : List (List UInt8)) (w : World) : Prop := w.ownsRow lo 9 1 v xs.length (stL xs)
theorem owt_none (w : World) (lo : Nat) (h : lo ≤ w.heap.size) : OwT lo (.slice (some ⟨w.heap.size, 0, none⟩) 0 0) [] (w.alloc (.cells #[] 9)) := World.ownsRow_lit _ _ _ h (Nat.zero_le _) rfl
theorem owt_len {lo : Nat} {g k cp : Nat} {xs : List (List UInt8)} {w : World} (h : OwT lo (.slice (some ⟨g, 0, none⟩) k cp) xs w) : k = xs.length ∧ lo ≤ g ∧ g < w.heap.size := by
  rcases h.2 with ⟨e, _⟩ | ⟨g', cap', cur, e, h2, h3, _⟩
  · cases e
  · cases e
    exact ⟨rfl, h2, (Array.getElem?_eq_some_iff.1 h3).1⟩
theorem owt_cell {lo : Nat} {g k cp : Nat} {xs : List (List UInt8)} {w : World} (h : OwT lo (.slice (some ⟨g, 0, none⟩) k cp) xs w) {i : Nat} {l : List UInt8} (hi : xs[i]? = some l) : w.cell? ⟨g, i, none⟩ = some (.string ⟨l.toArray⟩) := by
  have hl := (List.getElem?_eq_some_iff.1 hi).1
  obtain ⟨rfl, _⟩ := owt_len h
  have e := World.ownsRow.cellAt h i (by omega)
  rw [e]
  unfold stL
  rw [List.getElem?_map, hi]
  rfl
end Go.Proofs.YtoglomfejgpoeaaGreatDoor
namespace Go.Proofs.YtoglomfejgpoeaaGreatDoor
open Go.RowKit
set_option linter.unusedVariables false

theorem xor_nn (x y : Int) (hx : 0 ≤ x) (hx' : x < 1099511627776) (hy : 0 ≤ y) (hy' : y < 1099511627776) : 0 ≤ bits .xor .i64 x y := by
  obtain ⟨a, rfl⟩ := Int.eq_ofNat_of_zero_le hx
  obtain ⟨b, rfl⟩ := Int.eq_ofNat_of_zero_le hy
  have hab : a ^^^ b < 2 ^ 40 := Nat.xor_lt_two_pow (by omega) (by omega)
  have h1 : (BitVec.ofInt 64 (a : Int)).toNat = a := by
    rw [BitVec.ofInt_natCast, BitVec.toNat_ofNat]; exact Nat.mod_eq_of_lt (by omega)
  have h2 : (BitVec.ofInt 64 (b : Int)).toNat = b := by
    rw [BitVec.ofInt_natCast, BitVec.toNat_ofNat]; exact Nat.mod_eq_of_lt (by omega)
  show 0 ≤ IntKind.i64.wrap ((BitVec.ofInt 64 (a : Int) ^^^ BitVec.ofInt 64 (b : Int)).toNat : Int)
  rw [BitVec.toNat_xor, h1, h2]
  simp only [IntKind.wrap, IntKind.bits, IntKind.signed]
  generalize a ^^^ b = c at hab
  have hc : (c : Int) < 1099511627776 := by omega
  simp
  omega
theorem tmod_bd {x n : Int} (hx : 0 ≤ x) (hn : 1 ≤ n) : 0 ≤ x.tmod n ∧ x.tmod n < n := by
  rw [Int.tmod_eq_emod_of_nonneg hx]
  exact ⟨Int.emod_nonneg _ (by omega), Int.emod_lt_of_pos _ (by omega)⟩

set_option maxHeartbeats 1000000 in
theorem pick_in (w : World) (B bb off len cap p : Nat) (n : Int) (z : Nat → Int)
    (hc0 : w.cell? ⟨B, 0, none⟩ = some (.slice (some ⟨bb, off, none⟩) len cap))
    (hc1 : w.cell? ⟨B, 1, none⟩ = some (.int .i64 p))
    (hf : w.frozen? ⟨B, 1, none⟩ = false)
    (hbb : bb < B) (hz : ∀ i, i < len → w.cell? ⟨bb, off + i, none⟩ = some (.int .u8 (z i)))
    (hz0 : ∀ i, 0 ≤ z i) (hz1 : ∀ i, z i ≤ 255)
    (hl : len ≤ 2000) (hn : 1 ≤ n) (hn' : n ≤ 100000) (hp : p < len) :
    Calls Tryz.prog 76 #[.pointer (some ⟨B, 0, none⟩), .int .i64 n] w fun e w' => ∃ v, e = .returned (.int .i64 v) ∧ 0 ≤ v ∧ v < n ∧ ∃ nq, w' = (w.setCell ⟨B, 1, none⟩ (.int .i64 (p + 1))).drewN nq := by
  have hne : ¬ bb = B := by omega
  have hl0 : ((len : Int) == 0) = false := by simp; omega
  have hpl : (p : Int) < (len : Int) := by omega
  have hcp := hz p hp
  have z0 := hz0 p
  have z1 := hz1 p
  have hm0 := Int.emod_nonneg (z p) (show n ≠ 0 by omega)
  have hm1 := Int.emod_lt_of_pos (z p) (show 0 < n by omega)
  clear hz hz0 hz1
  go_enter Tryz.func76, Tryz.ntmps76
  go_wp2
  go_ret
  exact ⟨_, rfl, hm0, hm1, 0, rfl⟩
set_option maxHeartbeats 1000000 in
theorem pick_none (w : World) (B cap p : Nat) (a : Option Addr) (n : Int)
    (hc0 : w.cell? ⟨B, 0, none⟩ = some (.slice a 0 cap))
    (hc1 : w.cell? ⟨B, 1, none⟩ = some (.int .i64 p))
    (hf : w.frozen? ⟨B, 1, none⟩ = false) (hn : 1 ≤ n) (hp : (p : Int) ≤ 100000) :
    Calls Tryz.prog 76 #[.pointer (some ⟨B, 0, none⟩), .int .i64 n] w fun e w' => ∃ v, e = .returned (.int .i64 v) ∧ 0 ≤ v ∧ v < n ∧ ∃ nq, w' = (w.setCell ⟨B, 1, none⟩ (.int .i64 (p + 1))).drewN nq := by
  go_enter Tryz.func76, Tryz.ntmps76
  go_wp2
  go_ret
  exact ⟨_, rfl, by omega, by omega, 0, rfl⟩

set_option maxHeartbeats 1000000 in
theorem pick_past (w : World) (B bb off len cap p : Nat) (n : Int) (z : Nat → Int)
    (hc0 : w.cell? ⟨B, 0, none⟩ = some (.slice (some ⟨bb, off, none⟩) len cap))
    (hc1 : w.cell? ⟨B, 1, none⟩ = some (.int .i64 p))
    (hf : w.frozen? ⟨B, 1, none⟩ = false)
    (hbb : bb < B) (hz : ∀ i, i < len → w.cell? ⟨bb, off + i, none⟩ = some (.int .u8 (z i)))
    (hz0 : ∀ i, 0 ≤ z i) (hz1 : ∀ i, z i ≤ 255)
    (hl : len ≤ 2000) (hn : 1 ≤ n) (hn' : n ≤ 100000) (hp : len ≤ p) (h0 : 0 < len) (hp' : (p : Int) ≤ 100000) :
    Calls Tryz.prog 76 #[.pointer (some ⟨B, 0, none⟩), .int .i64 n] w fun e w' => ∃ v, e = .returned (.int .i64 v) ∧ 0 ≤ v ∧ v < n ∧ ∃ nq, w' = (w.setCell ⟨B, 1, none⟩ (.int .i64 (p + 1))).drewN nq := by
  have hne : ¬ bb = B := by omega
  have hl0 : ((len : Int) == 0) = false := by simp; omega
  have hlp : (0 : Int) < (len : Int) := by omega
  have hl2 : (len : Int) ≤ 2000 := by omega
  have hpl : (len : Int) ≤ (p : Int) := by omega
  have i1 := Int.emod_nonneg (p : Int) (show (len : Int) ≠ 0 by omega)
  have i2 := Int.emod_lt_of_pos (p : Int) hlp
  have j1 := Int.emod_nonneg ((p : Int) * 7 + 3) (show (len : Int) ≠ 0 by omega)
  have j2 := Int.emod_lt_of_pos ((p : Int) * 7 + 3) hlp
  have q1 : 0 ≤ (p : Int) / (len : Int) := Int.ediv_nonneg (by omega) (by omega)
  have q2 : (p : Int) / (len : Int) ≤ 100000 := Int.le_trans (Int.ediv_le_self _ (by omega)) hp'
  have hci := hz (p % len) (Nat.mod_lt _ h0)
  have hcj := hz ((p * 7 + 3) % len) (Nat.mod_lt _ h0)
  have zi0 := hz0 (p % len)
  have zi1 := hz1 (p % len)
  have zj0 := hz0 ((p * 7 + 3) % len)
  have zj1 := hz1 ((p * 7 + 3) % len)
  clear hz hz0 hz1
  go_enter Tryz.func76, Tryz.ntmps76
  go_wp2
  go_quiet (fail)
  go_wp2
  go_ret
  exact ⟨_, rfl, (tmod_bd (xor_nn _ _ (by omega) (by omega) (by omega) (by omega)) hn).1, (tmod_bd (xor_nn _ _ (by omega) (by omega) (by omega) (by omega)) hn).2, _, rfl⟩

/-- The reader at block B stands at place p over some bytes that lie below B; its place may be written. -/
def Rdr (w : World) (B p : Nat) : Prop :=
  w.cell? ⟨B, 1, none⟩ = some (.int .i64 p) ∧ w.frozen? ⟨B, 1, none⟩ = false ∧
  ∃ (a : Option Addr) (len cap : Nat), w.cell? ⟨B, 0, none⟩ = some (.slice a len cap) ∧ len ≤ 2000 ∧
    (len = 0 ∨ ∃ (bb off : Nat) (z : Nat → Int), a = some ⟨bb, off, none⟩ ∧ bb < B ∧ (∀ i, i < len → w.cell? ⟨bb, off + i, none⟩ = some (.int .u8 (z i))) ∧ (∀ i, 0 ≤ z i) ∧ ∀ i, z i ≤ 255)
/-- What a pick does to the world: the reader's place goes on by one. -/
def Picked (w w' : World) (B p : Nat) : Prop := ∃ nq, w' = (w.setCell ⟨B, 1, none⟩ (.int .i64 ((p + 1 : Nat) : Int))).drewN nq
theorem pick_any (w : World) (B p : Nat) (n : Int) (h : Rdr w B p) (hn : 1 ≤ n) (hn' : n ≤ 100000) (hp : (p : Int) ≤ 100000) :
    Calls Tryz.prog 76 #[.pointer (some ⟨B, 0, none⟩), .int .i64 n] w fun e w' => ∃ v, e = .returned (.int .i64 v) ∧ 0 ≤ v ∧ v < n ∧ Picked w w' B p := by
  obtain ⟨hc1, hf, a, len, cap, hc0, hl, h0⟩ := h
  have key : ∀ e w', (∃ v, e = Ending.returned (.int .i64 v) ∧ 0 ≤ v ∧ v < n ∧ ∃ nq, w' = (w.setCell ⟨B, 1, none⟩ (.int .i64 (p + 1))).drewN nq) → ∃ v, e = .returned (.int .i64 v) ∧ 0 ≤ v ∧ v < n ∧ Picked w w' B p := by
    rintro e w' ⟨v, h1, h2, h3, nq, h4⟩
    exact ⟨v, h1, h2, h3, nq, by rw [h4]; rfl⟩
  by_cases hz : len = 0
  · subst hz
    exact (pick_none w B cap p a n hc0 hc1 hf hn hp).mono key
  · obtain ⟨bb, off, z, rfl, hbb, hb, z0, z1⟩ := h0.resolve_left hz
    by_cases hpl : p < len
    · exact (pick_in w B bb off len cap p n z hc0 hc1 hf hbb hb z0 z1 hl hn hn' hpl).mono key
    · exact (pick_past w B bb off len cap p n z hc0 hc1 hf hbb hb z0 z1 hl hn hn' (by omega) (by omega) hp).mono key

/-- All blocks but B are as they were; the streams too. -/
structure Beside (B : Nat) (w w' : World) : Prop where
  os : w'.os = w.os
  tape : w'.tape = w.tape
  output : w'.output = w.output
  size : w.heap.size ≤ w'.heap.size
  block : ∀ k, k < w.heap.size → k ≠ B → w'.heap[k]? = w.heap[k]?
theorem Beside.refl (B : Nat) (w : World) : Beside B w w := ⟨rfl, rfl, rfl, Nat.le_refl _, fun _ _ _ => rfl⟩
theorem Beside.trans {B : Nat} {a b c : World} (h : Beside B a b) (k : Beside B b c) : Beside B a c :=
  ⟨k.os.trans h.os, k.tape.trans h.tape, k.output.trans h.output, Nat.le_trans h.size k.size, fun i hi hn => (k.block i (Nat.lt_of_lt_of_le hi h.size) hn).trans (h.block i hi hn)⟩
theorem Beside.alloc {B : Nat} {a w : World} (h : Beside B a w) (o : Obj) : Beside B a (w.alloc o) :=
  h.trans ⟨rfl, rfl, rfl, by simp, fun k hk _ => Below.heap_alloc _ _ _ hk⟩
theorem Beside.drewN {B : Nat} {a w : World} (h : Beside B a w) (n : Nat) : Beside B a (w.drewN n) := h.trans ⟨rfl, rfl, rfl, Nat.le_refl _, fun _ _ _ => rfl⟩
theorem Beside.cell {B : Nat} {w w' : World} (h : Beside B w w') {b o : Nat} (hb : b < w.heap.size) (hn : b ≠ B) : w'.cell? ⟨b, o, none⟩ = w.cell? ⟨b, o, none⟩ :=
  World.cell?_of_block (w := w) (h.block b hb hn)
theorem Beside.below {B n : Nat} {a w w' : World} (k : Below n a w) (h : Beside B w w') (hB : n ≤ B) (hn : n ≤ w.heap.size) : Below n a w' :=
  k.trans ⟨h.os, h.tape, h.output, h.size, fun k hk => h.block k (by omega) (by omega)⟩
theorem Picked.beside {w w' : World} {B p : Nat} (h : Picked w w' B p) : Beside B w w' := by
  obtain ⟨nq, rfl⟩ := h
  have h : Beside B w (w.setCell ⟨B, 1, none⟩ (.int .i64 ((p + 1 : Nat) : Int))) := ⟨rfl, rfl, rfl, by simp [World.setCell], fun k _ hk => Below.heap_setCell _ _ _ _ hk⟩
  exact h.drewN nq
theorem Rdr.lt {w : World} {B p : Nat} (h : Rdr w B p) : B < w.heap.size := World.block_lt_of_cell? w _ h.1
theorem Picked.rdr {w w' : World} {B p : Nat} (hp : Picked w w' B p) (h : Rdr w B p) : Rdr w' B (p + 1) := by
  have hb := hp.beside
  have hlt := h.lt
  obtain ⟨nq, rfl⟩ := hp
  obtain ⟨hc1, hf, a, len, cap, hc0, hl, h0⟩ := h
  refine ⟨by go_simp, by go_simp, a, len, cap, by go_simp, hl, ?_⟩
  rcases h0 with h0 | ⟨bb, off, z, rfl, hbb, hz, z0, z1⟩
  · exact .inl h0
  · exact .inr ⟨bb, off, z, rfl, hbb, fun i hi => by rw [hb.cell (by omega) (by omega)]; exact hz i hi, z0, z1⟩
theorem Rdr.alloc {w : World} {B p : Nat} (h : Rdr w B p) (o : Obj) : Rdr (w.alloc o) B p := by
  have hlt := h.lt
  obtain ⟨hc1, hf, a, len, cap, hc0, hl, h0⟩ := h
  refine ⟨by rw [World.cell?_alloc_past o B 1 hlt]; exact hc1, by rw [World.frozen?_alloc_past o B 1 hlt]; exact hf, a, len, cap, by rw [World.cell?_alloc_past o B 0 hlt]; exact hc0, hl, ?_⟩
  rcases h0 with h0 | ⟨bb, off, z, rfl, hbb, hz, z0, z1⟩
  · exact .inl h0
  · exact .inr ⟨bb, off, z, rfl, hbb, fun i hi => by rw [World.cell?_alloc_past o bb _ (by omega)]; exact hz i hi, z0, z1⟩
theorem Rdr.drewN {w : World} {B p : Nat} (h : Rdr w B p) (n : Nat) : Rdr (w.drewN n) B p := h


/-- A slice of bytes that came in: empty, or its bytes lie in a block that is there. -/
def Src (w : World) (a : Option Addr) (len cap : Nat) : Prop :=
  len ≤ cap ∧ cap ≤ maxLen ∧ (len = 0 ∨ ∃ (bb off : Nat) (z : Nat → Int), a = some ⟨bb, off, none⟩ ∧ bb < w.heap.size ∧ (∀ i, i < len → w.cell? ⟨bb, off + i, none⟩ = some (.int .u8 (z i))) ∧ (∀ i, 0 ≤ z i) ∧ ∀ i, z i ≤ 255)
theorem Src.below {w w' : World} {a : Option Addr} {len cap : Nat} (h : Src w a len cap) (hb : Below w.heap.size w w') : Src w' a len cap := by
  obtain ⟨h1, h2, h3⟩ := h
  refine ⟨h1, h2, ?_⟩
  rcases h3 with h0 | ⟨bb, off, z, rfl, hbb, hz, z0, z1⟩
  · exact .inl h0
  · exact .inr ⟨bb, off, z, rfl, Nat.lt_of_lt_of_le hbb hb.size, fun i hi => by rw [hb.cell (p := ⟨bb, off + i, none⟩) hbb]; exact hz i hi, z0, z1⟩

/-- A reader in a new block. -/
theorem rdr_new (w : World) (a : Option Addr) (len cap : Nat) (t : TypeId) (hl : len ≤ 2000)
    (h : len = 0 ∨ ∃ (bb off : Nat) (z : Nat → Int), a = some ⟨bb, off, none⟩ ∧ bb < w.heap.size ∧ (∀ i, i < len → w.cell? ⟨bb, off + i, none⟩ = some (.int .u8 (z i))) ∧ (∀ i, 0 ≤ z i) ∧ ∀ i, z i ≤ 255) :
    Rdr (w.alloc (.cells #[.slice a len cap, .int .i64 0] t)) w.heap.size 0 := by
  refine ⟨by rw [World.cell?_alloc_at _ _ _ _ rfl]; rfl, by rw [World.frozen?_alloc_at _ _ _ _ rfl], a, len, cap, by rw [World.cell?_alloc_at _ _ _ _ rfl]; rfl, hl, ?_⟩
  rcases h with h0 | ⟨bb, off, z, rfl, hbb, hz, z0, z1⟩
  · exact .inl h0
  · exact .inr ⟨bb, off, z, rfl, hbb, fun i hi => by rw [World.cell?_alloc_past _ bb _ hbb]; exact hz i hi, z0, z1⟩
theorem open_any (w : World) (a : Option Addr) (len cap : Nat) (h : Src w a len cap) :
    Calls Tryz.prog 67 #[.slice a len cap] w fun e w' => e = .returned (.pointer (some ⟨w.heap.size, 0, none⟩)) ∧ Rdr w' w.heap.size 0 ∧ Below w.heap.size w w' := by
  obtain ⟨h1, h2, h3⟩ := h
  unfold maxLen at h2
  by_cases hl : len ≤ 2000
  · have hl' : (len : Int) ≤ 2000 := by omega
    go_enter Tryz.func67, Tryz.ntmps67
    go_wp2
    go_ret
    exact ⟨rfl, rdr_new w a len cap _ hl h3, (Below.refl _ _).alloc (Nat.le_refl _) _⟩
  · have hl' : (2000 : Int) < (len : Int) := by omega
    have hc' : (2000 : Int) ≤ (cap : Int) := by omega
    rcases h3 with h0 | ⟨bb, off, z, rfl, hbb, hz, z0, z1⟩
    · omega
    · have hn := rdr_new w (some ⟨bb, off, none⟩) 2000 cap 126 (Nat.le_refl _) (.inr ⟨bb, off, z, rfl, hbb, fun i hi => hz i (by omega), z0, z1⟩)
      clear hz z0 z1
      go_enter Tryz.func67, Tryz.ntmps67
      go_wp2
      go_ret
      exact ⟨rfl, hn, (Below.refl _ _).alloc (Nat.le_refl _) _⟩

/-- The reader that a draw over the world w0 has made, and nothing of w0 has turned. -/
def RB (w0 W : World) (p : Nat) : Prop := Rdr W w0.heap.size p ∧ Below w0.heap.size w0 W
theorem RB.alloc {w0 W : World} {p : Nat} (h : RB w0 W p) (o : Obj) : RB w0 (W.alloc o) p := ⟨h.1.alloc o, h.2.alloc h.2.size o⟩
theorem RB.drewN {w0 W : World} {p : Nat} (h : RB w0 W p) (n : Nat) : RB w0 (W.drewN n) p := ⟨h.1, below_drewN h.2 n⟩
theorem RB.drew {w0 W : World} {p : Nat} (h : RB w0 W p) : RB w0 W.drew p := h.drewN 1
theorem RB.lt {w0 W : World} {p : Nat} (h : RB w0 W p) : w0.heap.size < W.heap.size := h.1.lt
theorem pick_rb (w0 W : World) (p : Nat) (n : Int) (h : RB w0 W p) (hn : 1 ≤ n) (hn' : n ≤ 100000) (hp : (p : Int) ≤ 100000) :
    Calls Tryz.prog 76 #[.pointer (some ⟨w0.heap.size, 0, none⟩), .int .i64 n] W fun e w' => ∃ v, e = .returned (.int .i64 v) ∧ 0 ≤ v ∧ v < n ∧ RB w0 w' (p + 1) ∧ (∀ b o, b < W.heap.size → ¬ b = w0.heap.size → w'.cell? ⟨b, o, none⟩ = W.cell? ⟨b, o, none⟩) ∧ W.heap.size ≤ w'.heap.size ∧ ¬ w'.heap.size = w0.heap.size := by
  refine (pick_any W w0.heap.size p n h.1 hn hn' hp).mono ?_
  rintro e w' ⟨v, h1, h2, h3, k⟩
  have r := k.rdr h.1
  have s := k.beside
  have l := r.lt
  exact ⟨v, h1, h2, h3, ⟨r, s.below h.2 (Nat.le_refl _) h.2.size⟩, fun b o hb hn => s.cell hb hn, s.size, by omega⟩

end Go.Proofs.YtoglomfejgpoeaaGreatDoor
