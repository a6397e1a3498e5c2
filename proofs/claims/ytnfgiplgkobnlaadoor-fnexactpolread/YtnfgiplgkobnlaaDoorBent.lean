/-
  A text that is bent (l20Bent, l20Maybe): some text, at most one byte longer.
-/
import Derived.Test.YtnfgiplgkobnlaaDoorDraw
import Derived.Test.YtnfgiplgkobnlaaDoorRdI
namespace Go.Proofs.YtnfgiplgkobnlaaDoor
open Go.Shelf Go.RowKit
set_option linter.unusedVariables false
set_option linter.unusedSimpArgs false
theorem ba_cat (a b : List UInt8) : (⟨a.toArray⟩ ++ ⟨b.toArray⟩ : ByteArray) = ⟨(a ++ b).toArray⟩ := by
  apply ByteArray.ext
  simp
theorem ba_cat1 (a : List UInt8) (c : UInt8) : (⟨a.toArray⟩ ++ ⟨#[c]⟩ : ByteArray) = ⟨(a ++ [c]).toArray⟩ := ba_cat a [c]
theorem ba_cat3 (a b : List UInt8) (c : UInt8) : (⟨a.toArray⟩ ++ ⟨#[c]⟩ ++ ⟨b.toArray⟩ : ByteArray) = ⟨(a ++ c :: b).toArray⟩ := by
  rw [ba_cat1, ba_cat, List.append_assoc]; rfl
theorem str_from1 {l : List UInt8} {k : Nat} (h : k + 1 ≤ l.length) (u : World) : (Instr.slice 9 (.string ⟨l.toArray⟩) (some (.int .i64 ((k : Int) + 1))) none none).run Tryd.prog u = .ok (.string ⟨(l.drop (k + 1)).toArray⟩) u := str_from h u
theorem byte_of (x : Int) : ((UInt8.ofNat (x % 256).toNat).toNat : Int) = x % 256 := by
  have h1 := Int.emod_nonneg x (show (256 : Int) ≠ 0 by omega)
  have h2 := Int.emod_lt_of_pos x (show (0 : Int) < 256 by omega)
  rw [UInt8.toNat_ofNat']
  omega
theorem one_byte (w : World) (x : Int) (t : TypeId) :
    (convert 22 9 (.slice (some ⟨w.heap.size, 0, none⟩) 1 1)).run Tryd.prog (w.alloc (Obj.cells #[.int .u8 (x % 256)] t)) = .ok (.string ⟨[UInt8.ofNat (x % 256).toNat].toArray⟩) (w.alloc (Obj.cells #[.int .u8 (x % 256)] t)) :=
  run_convert_bytes_back _ _ _ 5 ⟨w.heap.size, 0, none⟩ 1 [UInt8.ofNat (x % 256).toNat] Tryd.underlying22 Tryd.underlying5 Tryd.underlying9 (fun j hj => by
    have hj0 : j = 0 := by simpa using hj
    subst hj0
    have e : ([UInt8.ofNat (x % 256).toNat] : List UInt8)[0] = UInt8.ofNat (x % 256).toNat := rfl
    rw [e, byte_of]
    show (w.alloc _).cell? ⟨w.heap.size, 0, none⟩ = _
    rw [World.cell?_alloc_at _ _ _ _ rfl]
    rfl)
set_option maxRecDepth 100000 in
set_option maxHeartbeats 2000000 in
theorem bent_any (w : World) (B p : Nat) (l : List UInt8) (h : Rdr w B p) (hl : l.length ≤ 90000) (hp : p ≤ 90000) :
    Calls Tryd.prog 50 #[.pointer (some ⟨B, 0, none⟩), .string ⟨l.toArray⟩] w fun e w' => ∃ (l' : List UInt8) (q : Nat), e = .returned (.string ⟨l'.toArray⟩) ∧ l'.length ≤ l.length + 1 ∧ q ≤ p + 5 ∧ Rdr w' B q ∧ Beside B w w' := by
  have hlI : (l.length : Int) ≤ 90000 := by omega
  go_enter Tryd.func50, Tryd.ntmps50
  go_wp2_with fail
  refine (pick_any _ _ _ _ h (by omega) (by omega) (by omega)).mono ?_
  rintro e w1 ⟨k, rfl, k0, k1, hk⟩
  have h1 := hk.rdr h
  have hb1 := hk.beside
  clear hk
  go_wp2_with fail
  refine (pick_any _ _ _ _ h1 (by omega) (by omega) (by omega)).mono ?_
  rintro e w2 ⟨y, rfl, y0, y1, hk⟩
  have h2 := hk.rdr h1
  have hb2 := hb1.trans hk.beside
  clear hk h1 hb1 h
  go_wp2_with fail
  refine (pick_any _ _ _ _ (h2.alloc _) (by omega) (by omega) (by omega)).mono ?_
  rintro e w3 ⟨u, rfl, u0, u1, hk⟩
  have hb3 := hk.beside
  have h3 := hk.rdr (h2.alloc _)
  obtain ⟨x, hx⟩ : ∃ x, w3.cell? ⟨w2.heap.size, u.toNat, none⟩ = some (.int .i64 x) := by
    rw [hb3.cell (by simp) (by have := h2.lt; omega), World.cell?_alloc_at _ _ _ _ rfl]
    have hu : u = 0 ∨ u = 1 ∨ u = 2 ∨ u = 3 ∨ u = 4 ∨ u = 5 ∨ u = 6 ∨ u = 7 := by omega
    rcases hu with rfl | rfl | rfl | rfl | rfl | rfl | rfl | rfl <;> exact ⟨_, rfl⟩
  have hbb : Beside B w w3 := (hb2.alloc _).trans hb3
  clear hk hb2 hb3 h2
  obtain ⟨K, rfl⟩ := Int.eq_ofNat_of_zero_le k0
  have hcv := one_byte w3 x 5
  obtain ⟨c, hc⟩ : ∃ c, UInt8.ofNat (x % 256).toNat = c := ⟨_, rfl⟩
  rw [hc] at hcv
  clear hc
  go_wp2_with fail
  have hbc := hbb.alloc (Obj.cells #[.int .u8 (x % 256)] 5)
  have h4 := h3.alloc (Obj.cells #[.int .u8 (x % 256)] 5)
  clear hbb h3 hcv hx
  generalize w3.alloc (Obj.cells #[.int .u8 (x % 256)] 5) = w4 at hbc h4 ⊢
  refine (pick_any _ _ _ _ h4 (by omega) (by omega) (by omega)).mono ?_
  rintro e w5 ⟨v, rfl, v0, v1, hk⟩
  have h5 := hk.rdr h4
  have hb5 := hbc.trans hk.beside
  clear hk h4 hbc
  have hkl : K ≤ l.length := by omega
  have hto := fun u => str_to (l := l) (k := K) hkl u
  have hfr := fun u => str_from (l := l) (k := K) hkl u
  by_cases hv : v = 0
  · subst hv
    go_wp2
    go_quiet (fail)
    go_wp2
    go_ret
    exact ⟨l.take K ++ c :: l.drop K, _, by simp; exact ba_cat3 _ _ _, by simp; omega, by omega, h5, hb5.drewN _⟩
  · have hvb : (v == 0) = false := by simp [hv]
    clear hv
    by_cases hke : K = l.length
    · have hkb : ((K : Int) == (l.length : Int)) = true := by simp [hke]
      clear hke hto hfr
      go_wp2
      go_ret
      exact ⟨l ++ [c], _, by simp; exact ba_cat1 _ _, by simp, by omega, h5, hb5⟩
    · have hkb : ((K : Int) == (l.length : Int)) = false := by simp; omega
      have hfr1 := fun u => str_from1 (l := l) (k := K) (by omega) u
      go_wp2_with fail
      refine (pick_any _ _ _ _ h5 (by omega) (by omega) (by omega)).mono ?_
      rintro e w6 ⟨r, rfl, r0, r1, hk⟩
      have h6 := hk.rdr h5
      have hb6 := hb5.trans hk.beside
      have hKI : (K : Int) < (l.length : Int) := by omega
      clear hk h5 hb5 hfr hke
      by_cases hr : r = 0
      · subst hr
        go_wp2
        go_quiet (fail)
        go_wp2
        go_ret
        exact ⟨l.take K ++ l.drop (K + 1), _, by simp; exact ba_cat _ _, by simp; omega, by omega, h6, hb6.drewN _⟩
      · have hrb : (r == 0) = false := by simp [hr]
        clear hr
        go_wp2
        go_quiet (fail)
        go_wp2
        go_ret
        exact ⟨l.take K ++ c :: l.drop (K + 1), _, by simp; exact ba_cat3 _ _ _, by simp; omega, by omega, h6, hb6.drewN _⟩
set_option maxRecDepth 100000 in
set_option maxHeartbeats 2000000 in
theorem maybe_any (w : World) (B p : Nat) (l : List UInt8) (h : Rdr w B p) (hl : l.length ≤ 90000) (hp : p ≤ 80000) :
    Calls Tryd.prog 32 #[.pointer (some ⟨B, 0, none⟩), .string ⟨l.toArray⟩] w fun e w' => ∃ (l' : List UInt8) (q : Nat), e = .returned (.string ⟨l'.toArray⟩) ∧ l'.length ≤ l.length + 1 ∧ q ≤ p + 6 ∧ Rdr w' B q ∧ Beside B w w' := by
  go_enter Tryd.func32, Tryd.ntmps32
  go_wp2_with fail
  refine (pick_any _ _ _ _ h (by omega) (by omega) (by omega)).mono ?_
  rintro e w1 ⟨k, rfl, k0, k1, hk⟩
  have h1 := hk.rdr h
  have hb1 := hk.beside
  clear hk
  by_cases hk0 : k = 0
  · subst hk0
    go_wp2_with fail
    refine (bent_any _ _ _ _ h1 hl (by omega)).mono ?_
    rintro e w2 ⟨l', q, rfl, hl', hq, h2, hb2⟩
    have hb := hb1.trans hb2
    clear h1 hb1 hb2
    go_wp2
    go_ret
    exact ⟨l', q, rfl, hl', by omega, h2, hb⟩
  · have hkb : (k == 0) = false := by simp [hk0]
    clear hk0
    go_wp2
    go_ret
    exact ⟨l, _, rfl, by omega, by omega, h1, hb1⟩
end Go.Proofs.YtnfgiplgkobnlaaDoor
