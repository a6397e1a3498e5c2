/-
  What the laws over monomials lean on: the thing that holds of the program, and monomials in a world that grew.
  Lines, as lists of bytes.
  The model writes a line (DskText).
-/
import Derived.Test.YtoglomfejgpoeaaGreatDoorGbg
import Derived.Test.YtoglomfejgpoeaaGreatDoorGae
import Derived.Test.YtoglomfejgpoeaaGreatDoorGam
import Derived.Test.YtoglomfejgpoeaaGreatDoorGac
import Derived.Test.YtoglomfejgpoeaaGreatDoorGah
import Derived.Test.YtoglomfejgpoeaaGreatDoorGaj
import Derived.Deep.RegionHeld3
namespace Go.Proofs.YtoglomfejgpoeaaGreatDoor
open Go.RowKit
set_option linter.unusedVariables false

theorem M4.ext {w : World} {b : Nat} {x y d e : Int} (h : M4 w b x y d e) : (∀ u : Ext w, u.1.cell? ⟨b, 0, none⟩ = some (.int .i64 x)) ∧ (∀ u : Ext w, u.1.cell? ⟨b, 1, none⟩ = some (.int .i64 y)) ∧ (∀ u : Ext w, u.1.cell? ⟨b, 2, none⟩ = some (.int .i64 d)) ∧ (∀ u : Ext w, u.1.cell? ⟨b, 3, none⟩ = some (.int .i64 e)) :=
  ⟨fun u => (u.cell h.lt).trans h.1, fun u => (u.cell h.lt).trans h.2.1, fun u => (u.cell h.lt).trans h.2.2.1, fun u => (u.cell h.lt).trans h.2.2.2⟩
theorem heOneT (w : World) : Calls Tryz.prog 77 #[] w fun e w' => e = .returned (.slice (some ⟨w.heap.size, 0, none⟩) 1 1) ∧ w' = w.alloc (.cells #[.int .i64 1, .int .i64 0, .int .i64 0, .int .i64 0, .int .i64 0] 80) := by
  go_enter Tryz.func77, Tryz.ntmps77
  go_wp2
  go_ret
  exact ⟨rfl, rfl⟩
theorem heOkT (w : World) : Calls Tryz.prog 37 #[] w fun e w' => e = .returned (.bool true) ∧ Below w.heap.size w w' := by
  have hb0 : Below w.heap.size w (w.alloc (.cells #[.int .i64 1, .int .i64 0, .int .i64 0, .int .i64 0, .int .i64 0] 80)) := (Below.refl _ _).alloc (Nat.le_refl _) _
  have hr : Rd (w.alloc (.cells #[.int .i64 1, .int .i64 0, .int .i64 0, .int .i64 0, .int .i64 0] 80)) (some ⟨w.heap.size, 0, none⟩) 1 1 (fun _ => ⟨1, 0, 0, 0, 0⟩) := by
    refine ⟨Nat.le_refl _, by omega, .inr ⟨w.heap.size, 0, rfl, by simp, fun i hi => ?_⟩⟩
    obtain rfl : i = 0 := by omega
    exact ⟨by rw [World.cell?_alloc_at _ _ _ _ rfl]; rfl, by rw [World.cell?_alloc_at _ _ _ _ rfl]; rfl, by rw [World.cell?_alloc_at _ _ _ _ rfl]; rfl, by rw [World.cell?_alloc_at _ _ _ _ rfl]; rfl, by rw [World.cell?_alloc_at _ _ _ _ rfl]; rfl⟩
  have hp : polOk 1 (fun _ => ⟨1, 0, 0, 0, 0⟩) = true := by
    simp only [polOk, decide_eq_true_eq]
    refine ⟨by omega, fun i hi => ?_⟩
    obtain rfl : i = 0 := by omega
    decide
  go_enter Tryz.func37, Tryz.ntmps37
  go_wp2_with fail
  refine (heOneT _).mono ?_
  rintro e w1 ⟨rfl, rfl⟩
  generalize (w.alloc (.cells #[.int .i64 1, .int .i64 0, .int .i64 0, .int .i64 0, .int .i64 0] 80)) = w1 at hb0 hr ⊢
  go_wp2_with fail
  refine (polOkI _ _ _ _ _ hr).mono ?_
  rw [hp]
  rintro e w2 ⟨rfl, b2⟩
  have bz := hb0.trans (b2.mono hb0.size)
  clear hr hp hb0 b2
  go_wp2
  go_ret
  exact ⟨rfl, bz⟩
theorem monMulI_of {x y d e x' y' d' e' : Int} {m : M} {b : Bool} (h : M.mul ⟨x, y, d, e⟩ ⟨x', y', d', e'⟩ = (m, b)) (w : World) :
    Calls Tryz.prog 119 #[.agg #[.int .i64 x, .int .i64 y, .int .i64 d, .int .i64 e], .agg #[.int .i64 x', .int .i64 y', .int .i64 d', .int .i64 e']] w fun r w' => r = .returned (.tuple #[.agg #[.int .i64 m.x, .int .i64 m.y, .int .i64 m.d, .int .i64 m.e], .bool b]) ∧ Below w.heap.size w w' := by
  have := monMulI x y d e x' y' d' e' w
  rw [h] at this; exact this
theorem monMulS_of {x y d e x' y' d' e' : Int} {m : M} {b : Bool} (h : M.mul ⟨x, y, d, e⟩ ⟨x', y', d', e'⟩ = (m, b)) (w : World) :
    Calls Tryz.prog 164 #[.agg #[.int .i64 x, .int .i64 y, .int .i64 d, .int .i64 e], .agg #[.int .i64 x', .int .i64 y', .int .i64 d', .int .i64 e']] w fun r w' => r = .returned (.tuple #[.agg #[.int .i64 m.x, .int .i64 m.y, .int .i64 m.d, .int .i64 m.e], .bool b]) ∧ Below w.heap.size w w' := by
  have := monMulS x y d e x' y' d' e' w
  rw [h] at this; exact this
theorem monDegS_of {x y d e n : Int} (h : M.deg ⟨x, y, d, e⟩ = n) (w : World) :
    Calls Tryz.prog 145 #[.agg #[.int .i64 x, .int .i64 y, .int .i64 d, .int .i64 e]] w fun r w' => r = .returned (.int .i64 n) ∧ Below w.heap.size w w' := by
  have := monDegS x y d e w
  rw [h] at this; exact this
theorem M.mul_cases (a b : M) : (M.mul a b = (⟨0, 0, 0, 0⟩, false) ∧ M.mul b a = (⟨0, 0, 0, 0⟩, false)) ∨ (a.ok = true ∧ b.ok = true ∧ (M.sum a b).ok = true ∧ M.mul a b = (⟨a.x + b.x, a.y + b.y, a.d + b.d, a.e + b.e⟩, true) ∧ M.mul b a = (⟨a.x + b.x, a.y + b.y, a.d + b.d, a.e + b.e⟩, true)) := by
  have hc : M.sum b a = M.sum a b := by simp [M.sum, Int.add_comm]
  by_cases h : a.ok = true ∧ b.ok = true ∧ (M.sum a b).ok = true
  · refine .inr ⟨h.1, h.2.1, h.2.2, ?_, ?_⟩
    · rw [M.mul, if_pos h]; rfl
    · rw [M.mul, hc, if_pos ⟨h.2.1, h.1, h.2.2⟩]; rfl
  · refine .inl ⟨?_, ?_⟩
    · rw [M.mul, if_neg h]; rfl
    · rw [M.mul, hc, if_neg (fun k => h ⟨k.2.1, k.1, k.2.2⟩)]; rfl
theorem M.deg_bd {m : M} (h : m.ok = true) : m.deg = m.x + m.y + m.d + m.e ∧ 0 ≤ m.deg ∧ m.deg ≤ 60 := by
  have := M.ok_iff.1 h
  rw [M.deg, if_pos h]
  exact ⟨rfl, by omega, by omega⟩
theorem mx_comm (a b : Int) : mx a b = mx b a := by unfold mx; split <;> split <;> omega
theorem M.both_comm (a b : M) : M.both a b = M.both b a := by
  unfold M.both
  by_cases h : a.ok = true ∧ b.ok = true
  · rw [if_pos h, if_pos h.symm, mx_comm a.x, mx_comm a.y, mx_comm a.d, mx_comm a.e]
  · rw [if_neg h, if_neg (fun k => h k.symm)]
theorem M.dvd_mk {a b : M} (ha : a.ok = true) (hb : b.ok = true) (h : a.x ≤ b.x ∧ a.y ≤ b.y ∧ a.d ≤ b.d ∧ a.e ≤ b.e) : a.dvd b = true := by
  simp [M.dvd, ha, hb, h]
theorem mx_bd {a b l h : Int} (ha : l ≤ a ∧ a ≤ h) (hb : l ≤ b ∧ b ≤ h) : l ≤ mx a b ∧ mx a b ≤ h ∧ a ≤ mx a b ∧ b ≤ mx a b := by unfold mx; split <;> omega
theorem mx_le {a b c : Int} (ha : a ≤ c) (hb : b ≤ c) : mx a b ≤ c := by unfold mx; split <;> omega
theorem M.both_facts {a b p : M} (ha : a.ok = true) (hb : b.ok = true) (hp : M.both a b = p) : a.dvd p = true ∧ b.dvd p = true ∧ (∀ c : M, a.dvd c = true → b.dvd c = true → p.dvd c = true) ∧ M.both a a = a := by
  rw [M.both, if_pos ⟨ha, hb⟩] at hp
  subst hp
  have ka := M.ok_iff.1 ha
  have kb := M.ok_iff.1 hb
  have hx := mx_bd (a := a.x) (b := b.x) (l := 0) (h := 15) (by omega) (by omega)
  have hy := mx_bd (a := a.y) (b := b.y) (l := 0) (h := 15) (by omega) (by omega)
  have hd := mx_bd (a := a.d) (b := b.d) (l := 0) (h := 15) (by omega) (by omega)
  have he := mx_bd (a := a.e) (b := b.e) (l := 0) (h := 15) (by omega) (by omega)
  have hok : M.ok ⟨mx a.x b.x, mx a.y b.y, mx a.d b.d, mx a.e b.e⟩ = true := M.ok_iff.2 (by dsimp only; omega)
  refine ⟨M.dvd_mk ha hok (by dsimp only; omega), M.dvd_mk hb hok (by dsimp only; omega), fun c h1 h2 => ?_, ?_⟩
  · have k1 := M.dvd_iff h1
    have k2 := M.dvd_iff h2
    exact M.dvd_mk hok k1.2.1 ⟨mx_le k1.2.2.1 k2.2.2.1, mx_le k1.2.2.2.1 k2.2.2.2.1, mx_le k1.2.2.2.2.1 k2.2.2.2.2.1, mx_le k1.2.2.2.2.2 k2.2.2.2.2.2⟩
  · rw [M.both, if_pos ⟨ha, ha⟩]
    have : ∀ z : Int, mx z z = z := fun z => by unfold mx; split <;> rfl
    simp only [this]
end Go.Proofs.YtoglomfejgpoeaaGreatDoor
namespace Go.Proofs.YtoglomfejgpoeaaGreatDoor
open Go.RowKit
set_option linter.unusedVariables false
/-- how many slots a line of a kind names. -/
def nmd (k : Int) : Nat := if k = 2 ∨ k = 3 ∨ k = 4 ∨ k = 5 then 3 else if k = 6 ∨ k = 7 then 2 else if k = 1 ∨ k = 8 then 1 else 0
def nam (k : Int) : List UInt8 := if k = 1 then [115, 101, 116] else if k = 2 then [97, 100, 100] else if k = 3 then [109, 117, 108] else if k = 4 then [97, 112, 97, 114, 116] else if k = 5 then [100, 111] else if k = 6 then [114, 111, 117, 110, 100] else if k = 7 then [98, 97, 99, 107] else [115, 104, 111, 119]
def slB (x : Int) : UInt8 := UInt8.ofNat (65 + x).toNat
/-- a line has all that its kind has, and nothing else. -/
def whl (k to a b : Int) (n : Nat) (f : Nat → T) : Bool :=
  decide ((1 ≤ k ∧ k ≤ 8) ∧ (0 ≤ to ∧ to ≤ 5) ∧ (0 ≤ a ∧ a ≤ 5) ∧ (0 ≤ b ∧ b ≤ 5) ∧ polOk n f = true ∧ (2 ≤ nmd k ∨ a = 0) ∧ (3 ≤ nmd k ∨ b = 0) ∧ (k = 1 ∨ n = 0))
def slts (to a b : Int) : List (List UInt8) := [[slB to], [slB a], [slB b]]
def wdsL (k to a b : Int) (n : Nat) (f : Nat → T) : List (List UInt8) := nam k :: ((slts to a b).take (nmd k) ++ if k = 1 then [polT n f] else [])
def rawL (k to a b : Int) (n : Nat) (f : Nat → T) : List UInt8 := Lib.join (wdsL k to a b n f) [32]
def lnT (k to a b : Int) (n : Nat) (f : Nat → T) : List UInt8 := if whl k to a b n f = true ∧ (rawL k to a b n f).length ≤ 400 then rawL k to a b n f else []
theorem lnT_no {k to a b : Int} {n : Nat} {f : Nat → T} (h : whl k to a b n f = false) : lnT k to a b n f = [] := by unfold lnT; rw [if_neg (fun q => by rw [h] at q; cases q.1)]
theorem lnT_long {k to a b : Int} {n : Nat} {f : Nat → T} (h : ¬ (rawL k to a b n f).length ≤ 400) : lnT k to a b n f = [] := by unfold lnT; rw [if_neg (fun q => h q.2)]
theorem lnT_is {k to a b : Int} {n : Nat} {f : Nat → T} (h : whl k to a b n f = true) (hl : (rawL k to a b n f).length ≤ 400) : lnT k to a b n f = rawL k to a b n f := by unfold lnT; rw [if_pos ⟨h, hl⟩]
theorem whl_no {k to a b : Int} {n : Nat} {f : Nat → T} (h : ¬ ((1 ≤ k ∧ k ≤ 8) ∧ (0 ≤ to ∧ to ≤ 5) ∧ (0 ≤ a ∧ a ≤ 5) ∧ (0 ≤ b ∧ b ≤ 5) ∧ polOk n f = true ∧ (2 ≤ nmd k ∨ a = 0) ∧ (3 ≤ nmd k ∨ b = 0) ∧ (k = 1 ∨ n = 0))) : whl k to a b n f = false := decide_eq_false h
theorem sl_byte {x : Int} (h0 : 0 ≤ x) (h5 : x ≤ 5) : UInt8.ofNat ((65 + x) % 256).toNat = slB x := by
  unfold slB
  rw [show (65 + x) % 256 = 65 + x by omega]
theorem raw1 (to a b : Int) (n : Nat) (f : Nat → T) : rawL 1 to a b n f = [115, 101, 116] ++ [32] ++ [slB to] ++ [32] ++ polT n f := by
  show Lib.join [[115, 101, 116], [slB to], polT n f] [32] = _
  simp [Lib.join_cons, Lib.joinTail]
theorem raw8 (to a b : Int) (n : Nat) (f : Nat → T) : rawL 8 to a b n f = [115, 104, 111, 119] ++ [32] ++ [slB to] := by
  show Lib.join [[115, 104, 111, 119], [slB to]] [32] = _
  simp [Lib.join_cons, Lib.joinTail]
theorem raw6 (to a b : Int) (n : Nat) (f : Nat → T) : rawL 6 to a b n f = [114, 111, 117, 110, 100] ++ [32] ++ [slB to] ++ [32] ++ [slB a] := by
  show Lib.join [[114, 111, 117, 110, 100], [slB to], [slB a]] [32] = _
  simp [Lib.join_cons, Lib.joinTail]
theorem raw7 (to a b : Int) (n : Nat) (f : Nat → T) : rawL 7 to a b n f = [98, 97, 99, 107] ++ [32] ++ [slB to] ++ [32] ++ [slB a] := by
  show Lib.join [[98, 97, 99, 107], [slB to], [slB a]] [32] = _
  simp [Lib.join_cons, Lib.joinTail]
theorem raw2 (to a b : Int) (n : Nat) (f : Nat → T) : rawL 2 to a b n f = [97, 100, 100] ++ [32] ++ [slB to] ++ [32] ++ [slB a] ++ [32] ++ [slB b] := by
  show Lib.join [[97, 100, 100], [slB to], [slB a], [slB b]] [32] = _
  simp [Lib.join_cons, Lib.joinTail]
theorem raw3 (to a b : Int) (n : Nat) (f : Nat → T) : rawL 3 to a b n f = [109, 117, 108] ++ [32] ++ [slB to] ++ [32] ++ [slB a] ++ [32] ++ [slB b] := by
  show Lib.join [[109, 117, 108], [slB to], [slB a], [slB b]] [32] = _
  simp [Lib.join_cons, Lib.joinTail]
theorem raw4 (to a b : Int) (n : Nat) (f : Nat → T) : rawL 4 to a b n f = [97, 112, 97, 114, 116] ++ [32] ++ [slB to] ++ [32] ++ [slB a] ++ [32] ++ [slB b] := by
  show Lib.join [[97, 112, 97, 114, 116], [slB to], [slB a], [slB b]] [32] = _
  simp [Lib.join_cons, Lib.joinTail]
theorem raw5 (to a b : Int) (n : Nat) (f : Nat → T) : rawL 5 to a b n f = [100, 111] ++ [32] ++ [slB to] ++ [32] ++ [slB a] ++ [32] ++ [slB b] := by
  show Lib.join [[100, 111], [slB to], [slB a], [slB b]] [32] = _
  simp [Lib.join_cons, Lib.joinTail]
end Go.Proofs.YtoglomfejgpoeaaGreatDoor
namespace Go.Proofs.YtoglomfejgpoeaaGreatDoor
open Go.RowKit
set_option linter.unusedVariables false
set_option linter.unusedSimpArgs false
theorem byte_ofd (x : Int) : ((UInt8.ofNat (x % 256).toNat).toNat : Int) = x % 256 := by
  have h1 := Int.emod_nonneg x (show (256 : Int) ≠ 0 by omega)
  have h2 := Int.emod_lt_of_pos x (show (0 : Int) < 256 by omega)
  rw [UInt8.toNat_ofNat']
  omega
theorem conv1 (w : World) (x : Int) (t : TypeId) :
    (convert 51 9 (.slice (some ⟨w.heap.size, 0, none⟩) 1 1)).run Tryz.prog (w.alloc (Obj.cells #[.int .u8 (x % 256)] t)) = .ok (.string ⟨[UInt8.ofNat (x % 256).toNat].toArray⟩) (w.alloc (Obj.cells #[.int .u8 (x % 256)] t)) :=
  run_convert_bytes_back _ _ _ 5 ⟨w.heap.size, 0, none⟩ 1 [UInt8.ofNat (x % 256).toNat] Tryz.underlying51 Tryz.underlying5 Tryz.underlying9 (fun j hj => by
    have hj0 : j = 0 := by simpa using hj
    subst hj0
    have e : ([UInt8.ofNat (x % 256).toNat] : List UInt8)[0] = UInt8.ofNat (x % 256).toNat := rfl
    rw [e, byte_ofd]
    show (w.alloc _).cell? ⟨w.heap.size, 0, none⟩ = _
    rw [World.cell?_alloc_at _ _ _ _ rfl]
    rfl)
theorem convS {x : Int} (h0 : 0 ≤ x) (h5 : x ≤ 5) (w : World) (g : Nat) (hc : w.cell? ⟨g, 0, none⟩ = some (.int .u8 (65 + x))) : (convert 51 9 (.slice (some ⟨g, 0, none⟩) 1 1)).run Tryz.prog w = .ok (.string ⟨#[slB x]⟩) w := by
  have e1 : ((slB x).toNat : Int) = 65 + x := by
    unfold slB
    rw [UInt8.toNat_ofNat']
    omega
  exact run_convert_bytes_back _ _ _ 5 ⟨g, 0, none⟩ 1 [slB x] Tryz.underlying51 Tryz.underlying5 Tryz.underlying9 (fun j hj => by
    have hj0 : j = 0 := by simpa using hj
    subst hj0
    show w.cell? ⟨g, 0, none⟩ = _
    rw [hc, ← e1]
    rfl)
theorem conv_at {x : Int} (h0 : 0 ≤ x) (h5 : x ≤ 5) (V : World) (g : Nat) (hg : g = V.heap.size) (t : TypeId) : (convert 51 9 (.slice (some ⟨g, 0, none⟩) 1 1)).run Tryz.prog (V.alloc (.cells #[.int .u8 (65 + x)] t)).drew = .ok (.string ⟨#[slB x]⟩) (V.alloc (.cells #[.int .u8 (65 + x)] t)).drew := by
  subst hg
  refine convS h0 h5 _ _ ?_
  show (V.alloc _).cell? _ = _
  rw [World.cell?_alloc_at _ _ _ _ rfl]
  rfl
--@IF spec.l11Names
theorem namesS (w : World) : Calls Tryz.prog 46 #[] w fun e w' => e = .returned (.slice (some ⟨w.heap.size, 0, none⟩) 9 9) ∧ w' = w.alloc (.cells #[.string ⟨#[]⟩, .string ⟨#[115, 101, 116]⟩, .string ⟨#[97, 100, 100]⟩, .string ⟨#[109, 117, 108]⟩, .string ⟨#[97, 112, 97, 114, 116]⟩, .string ⟨#[100, 111]⟩, .string ⟨#[114, 111, 117, 110, 100]⟩, .string ⟨#[98, 97, 99, 107]⟩, .string ⟨#[115, 104, 111, 119]⟩] 9) := by
  go_enter Tryz.func46, Tryz.ntmps46
  go_wp2
  go_ret
  exact ⟨rfl, rfl⟩
theorem manyS (k : Int) (hk : 1 ≤ k ∧ k ≤ 8) (w : World) : Calls Tryz.prog 47 #[.int .i64 k] w fun e w' => e = .returned (.int .i64 (nmd k)) ∧ w' = w := by
  rcases (show k = 1 ∨ k = 2 ∨ k = 3 ∨ k = 4 ∨ k = 5 ∨ k = 6 ∨ k = 7 ∨ k = 8 by omega) with rfl | rfl | rfl | rfl | rfl | rfl | rfl | rfl
  all_goals (
    go_enter Tryz.func47, Tryz.ntmps47
    go_wp2
    go_ret
    exact ⟨rfl, rfl⟩)
/-- the five cells of a line. -/
abbrev L5 (u : World) (b : Nat) (k to a b' : Int) (pa : Option Addr) (n cap : Nat) : Prop := u.cell? ⟨b, 0, none⟩ = some (.int .i64 k) ∧ u.cell? ⟨b, 1, none⟩ = some (.int .i64 to) ∧ u.cell? ⟨b, 2, none⟩ = some (.int .i64 a) ∧ u.cell? ⟨b, 3, none⟩ = some (.int .i64 b') ∧ u.cell? ⟨b, 4, none⟩ = some (.slice pa n cap)
theorem l5_below {u u' : World} {B b : Nat} {k to a b' : Int} {pa : Option Addr} {n cap : Nat} (h : L5 u b k to a b' pa n cap) (hb : Below B u u') (hn : b < B) : L5 u' b k to a b' pa n cap :=
  ⟨(hb.cell (p := ⟨b, 0, none⟩) hn).trans h.1, (hb.cell (p := ⟨b, 1, none⟩) hn).trans h.2.1, (hb.cell (p := ⟨b, 2, none⟩) hn).trans h.2.2.1, (hb.cell (p := ⟨b, 3, none⟩) hn).trans h.2.2.2.1, (hb.cell (p := ⟨b, 4, none⟩) hn).trans h.2.2.2.2⟩
theorem l5_box (w : World) (k to a b : Int) (pa : Option Addr) (n cap : Nat) : L5 (w.alloc (.cells #[.int .i64 k, .int .i64 to, .int .i64 a, .int .i64 b, .slice pa n cap] 24)) w.heap.size k to a b pa n cap :=
  ⟨by rw [World.cell?_alloc_at _ _ _ _ rfl]; rfl, by rw [World.cell?_alloc_at _ _ _ _ rfl]; rfl, by rw [World.cell?_alloc_at _ _ _ _ rfl]; rfl, by rw [World.cell?_alloc_at _ _ _ _ rfl]; rfl, by rw [World.cell?_alloc_at _ _ _ _ rfl]; rfl⟩
theorem bel_a {a w : World} {o : Obj} (h : Below a.heap.size a w) : Below a.heap.size a (w.alloc o) := h.alloc h.size o
theorem bel_d {a w : World} (h : Below a.heap.size a w) : Below a.heap.size a w.drew := h.drew
theorem l5_drew {u : World} {b : Nat} {k to a b' : Int} {pa : Option Addr} {n cap : Nat} (h : L5 u b k to a b' pa n cap) : L5 u.drew b k to a b' pa n cap := h
set_option maxRecDepth 100000 in
set_option maxHeartbeats 8000000 in
theorem dtS0 (k : Int) (hk : k < 1 ∨ (1 ≤ k ∧ 8 < k)) (to a b : Int) (pa : Option Addr) (n cap : Nat) (f : Nat → T) (w : World) (h : Rd w pa n cap f) :
    Calls Tryz.prog 34 #[.agg #[.int .i64 k, .int .i64 to, .int .i64 a, .int .i64 b, .slice pa n cap]] w fun r w' => r = .returned (.string ⟨(lnT k to a b n f).toArray⟩) ∧ Below w.heap.size w w' := by
  have hB0 := bel_one w (.cells #[.int .i64 k, .int .i64 to, .int .i64 a, .int .i64 b, .slice pa n cap] 24)
  have HL0 := Hid.mk' (l5_box w k to a b pa n cap)
  have HRD := Hid.mk' (h.below hB0)
  have HB0 := Hid.mk' hB0
  have hnI : (n : Int) ≤ 9223372036854775807 := by have := h.2.1; omega
  clear hB0 h
  obtain ⟨R, hR⟩ : ∃ R, lnT k to a b n f = R := ⟨_, rfl⟩
  rw [hR]
  have HR := Hid.mk' hR
  clear hR
  have HZ : Hid (R = []) := by rw [← HR.out]; exact Hid.mk' (lnT_no (whl_no (fun q => by have := q.1; omega)))
  go_enter Tryz.func34, Tryz.ntmps34
  go_wp2_with (go_at_call 73; first | (refine (inS_in _ _ _ _ (by omega) (by omega)).mono ?_; rintro e w' ⟨rfl, rfl⟩) | (refine (inS_out _ _ _ _ (by omega)).mono ?_; rintro e w' ⟨rfl, rfl⟩))
  go_ret
  exact ⟨by rw [HZ.out]; rfl, HB0.out⟩
set_option maxRecDepth 100000 in
set_option maxHeartbeats 8000000 in
theorem dtS1 (to a b : Int) (pa : Option Addr) (n cap : Nat) (f : Nat → T) (w : World) (h : Rd w pa n cap f) :
    Calls Tryz.prog 34 #[.agg #[.int .i64 1, .int .i64 to, .int .i64 a, .int .i64 b, .slice pa n cap]] w fun r w' => r = .returned (.string ⟨(lnT 1 to a b n f).toArray⟩) ∧ Below w.heap.size w w' := by
  have hB0 := bel_one w (.cells #[.int .i64 1, .int .i64 to, .int .i64 a, .int .i64 b, .slice pa n cap] 24)
  have HL0 := Hid.mk' (l5_box w 1 to a b pa n cap)
  have HRD := Hid.mk' (h.below hB0)
  have HB0 := Hid.mk' hB0
  have hnI : (n : Int) ≤ 9223372036854775807 := by have := h.2.1; omega
  clear hB0 h
  obtain ⟨R, hR⟩ : ∃ R, lnT 1 to a b n f = R := ⟨_, rfl⟩
  rw [hR]
  have HR := Hid.mk' hR
  clear hR
  by_cases h1 : to < 0 ∨ (0 ≤ to ∧ 5 < to)
  · have HZ : Hid (R = []) := by rw [← HR.out]; exact Hid.mk' (lnT_no (whl_no (fun q => by have := q.2.1; omega)))
    go_enter Tryz.func34, Tryz.ntmps34
    go_wp2_with (go_at_call 73; first | (refine (inS_in _ _ _ _ (by omega) (by omega)).mono ?_; rintro e w' ⟨rfl, rfl⟩) | (refine (inS_out _ _ _ _ (by omega)).mono ?_; rintro e w' ⟨rfl, rfl⟩))
    go_ret
    exact ⟨by rw [HZ.out]; rfl, HB0.out⟩
  by_cases h2 : a < 0 ∨ (0 ≤ a ∧ 5 < a)
  · have HZ : Hid (R = []) := by rw [← HR.out]; exact Hid.mk' (lnT_no (whl_no (fun q => by have := q.2.2.1; omega)))
    go_enter Tryz.func34, Tryz.ntmps34
    go_wp2_with (go_at_call 73; first | (refine (inS_in _ _ _ _ (by omega) (by omega)).mono ?_; rintro e w' ⟨rfl, rfl⟩) | (refine (inS_out _ _ _ _ (by omega)).mono ?_; rintro e w' ⟨rfl, rfl⟩))
    go_ret
    exact ⟨by rw [HZ.out]; rfl, HB0.out⟩
  by_cases h3 : b < 0 ∨ (0 ≤ b ∧ 5 < b)
  · have HZ : Hid (R = []) := by rw [← HR.out]; exact Hid.mk' (lnT_no (whl_no (fun q => by have := q.2.2.2.1; omega)))
    go_enter Tryz.func34, Tryz.ntmps34
    go_wp2_with (go_at_call 73; first | (refine (inS_in _ _ _ _ (by omega) (by omega)).mono ?_; rintro e w' ⟨rfl, rfl⟩) | (refine (inS_out _ _ _ _ (by omega)).mono ?_; rintro e w' ⟨rfl, rfl⟩))
    go_ret
    exact ⟨by rw [HZ.out]; rfl, HB0.out⟩
  obtain ⟨ok, hok⟩ : ∃ x, polOk n f = x := ⟨_, rfl⟩
  have HC := Hid.mk' (polOkS _ pa n cap f HRD.out)
  rw [hok] at HC
  have t0 : 0 ≤ to := by omega
  have t5 : to ≤ 5 := by omega
  have a0 : 0 ≤ a := by omega
  have a5 : a ≤ 5 := by omega
  have b0 : 0 ≤ b := by omega
  have b5 : b ≤ 5 := by omega
  clear h1 h2 h3
  have HOK := Hid.mk' hok
  clear hok
  cases ok
  · have HZ : Hid (R = []) := by rw [← HR.out]; exact Hid.mk' (lnT_no (whl_no (fun q => by have := q.2.2.2.2.1; rw [HOK.out] at this; cases this)))
    go_enter Tryz.func34, Tryz.ntmps34
    go_wp2_with (go_at_call 73; first | (refine (inS_in _ _ _ _ (by omega) (by omega)).mono ?_; rintro e w' ⟨rfl, rfl⟩) | (refine (inS_out _ _ _ _ (by omega)).mono ?_; rintro e w' ⟨rfl, rfl⟩))
    refine HC.out.mono ?_
    rintro r w1 ⟨rfl, hb1⟩
    have HB1 := Hid.mk' (bel_next HB0.out hb1)
    clear hb1
    go_wp2
    go_ret
    exact ⟨by rw [HZ.out]; rfl, HB1.out⟩
  · skip
    by_cases ha : ¬ a = 0
    · have HZ : Hid (R = []) := by rw [← HR.out]; exact Hid.mk' (lnT_no (whl_no (fun q => ha (by have := q.2.2.2.2.2.1; revert this; simp [nmd]))))
      have hab : (a != 0) = true := by simp [ha]
      go_enter Tryz.func34, Tryz.ntmps34
      go_wp2_with (go_at_call 73; first | (refine (inS_in _ _ _ _ (by omega) (by omega)).mono ?_; rintro e w' ⟨rfl, rfl⟩) | (refine (inS_out _ _ _ _ (by omega)).mono ?_; rintro e w' ⟨rfl, rfl⟩))
      refine HC.out.mono ?_
      rintro r w1 ⟨rfl, hb1⟩
      have HB1 := Hid.mk' (bel_next HB0.out hb1)
      have HRD1 := Hid.mk' (HRD.out.below hb1)
      have HL1 := Hid.mk' (l5_below HL0.out hb1 (by simp))
      have hlt1 : w.heap.size < w1.heap.size := Nat.lt_of_lt_of_le (by simp) hb1.size
      clear hb1 HC HL0 HB0 HRD
      obtain ⟨l0, l1, l2, l3, l4⟩ := HL1.out
      go_wp2_with fail
      refine (manyS 1 (by omega) _).mono ?_
      rintro r w' ⟨rfl, hw'⟩
      obtain rfl := hw'.symm
      clear hw'
      rw [show ((nmd 1 : Nat) : Int) = 1 from rfl]
      go_wp2
      go_ret
      exact ⟨by rw [HZ.out]; rfl, HB1.out⟩
    have ha0 : Hid (a = 0) := Hid.mk' (by omega)
    clear ha
    by_cases hb : ¬ b = 0
    · have HZ : Hid (R = []) := by rw [← HR.out]; exact Hid.mk' (lnT_no (whl_no (fun q => hb (by have := q.2.2.2.2.2.2.1; revert this; simp [nmd]))))
      have hbb : (b != 0) = true := by simp [hb]
      go_enter Tryz.func34, Tryz.ntmps34
      go_wp2_with (go_at_call 73; first | (refine (inS_in _ _ _ _ (by omega) (by omega)).mono ?_; rintro e w' ⟨rfl, rfl⟩) | (refine (inS_out _ _ _ _ (by omega)).mono ?_; rintro e w' ⟨rfl, rfl⟩))
      refine HC.out.mono ?_
      rintro r w1 ⟨rfl, hb1⟩
      have HB1 := Hid.mk' (bel_next HB0.out hb1)
      have HRD1 := Hid.mk' (HRD.out.below hb1)
      have HL1 := Hid.mk' (l5_below HL0.out hb1 (by simp))
      have hlt1 : w.heap.size < w1.heap.size := Nat.lt_of_lt_of_le (by simp) hb1.size
      clear hb1 HC HL0 HB0 HRD
      obtain ⟨l0, l1, l2, l3, l4⟩ := HL1.out
      go_wp2_with fail
      refine (manyS 1 (by omega) _).mono ?_
      rintro r w' ⟨rfl, hw'⟩
      obtain rfl := hw'.symm
      clear hw'
      rw [show ((nmd 1 : Nat) : Int) = 1 from rfl]
      go_wp2
      go_ret
      exact ⟨by rw [HZ.out]; rfl, HB1.out⟩
    have hb0 : Hid (b = 0) := Hid.mk' (by omega)
    clear hb
    have haq : (a != 0) = false := by simp [ha0.out]
    have hbq : (b != 0) = false := by simp [hb0.out]
    have HW : Hid (whl 1 to a b n f = true) := Hid.mk' (decide_eq_true ⟨⟨by omega, by omega⟩, ⟨t0, t5⟩, ⟨a0, a5⟩, ⟨b0, b5⟩, HOK.out, .inr ha0.out, .inr hb0.out, .inl rfl⟩)
    obtain ⟨PT, hPT⟩ : ∃ S, polT n f = S := ⟨_, rfl⟩
    have hPl : PT.length ≤ 6801 := by
      rw [← hPT, polT]
      rw [if_pos HOK.out]
      split
      · simp
      · have := jnT_len n (fun i hi => (polOk_is HOK.out).2 i hi)
        have := (polOk_is HOK.out).1
        omega
    have HRAW : Hid (rawL 1 to a b n f = [115, 101, 116] ++ [32] ++ [slB to] ++ [32] ++ PT) := by rw [raw1, hPT]; exact Hid.mk' rfl
    have HTX := Hid.mk' (fun (u : World) (hu : Rd u pa n cap f) => polTextS u pa n cap f hu)
    rw [hPT] at HTX
    clear hPT
    have hcv := fun (u : World) (g : Nat) hc => convS t0 t5 u g hc
    have hwto : IntKind.i64.wrap (65 + to) = 65 + to := by rw [IntKind.wrap_i64]; omega
    have hvto : IntKind.u8.wrap (65 + to) = 65 + to := by rw [IntKind.wrap_u8]; omega
    have hwa : IntKind.i64.wrap (65 + a) = 65 + a := by rw [IntKind.wrap_i64]; omega
    have hva : IntKind.u8.wrap (65 + a) = 65 + a := by rw [IntKind.wrap_u8]; omega
    have hwb : IntKind.i64.wrap (65 + b) = 65 + b := by rw [IntKind.wrap_i64]; omega
    have hvb : IntKind.u8.wrap (65 + b) = 65 + b := by rw [IntKind.wrap_u8]; omega
    go_enter Tryz.func34, Tryz.ntmps34
    go_wp2_with (go_at_call 73; first | (refine (inS_in _ _ _ _ (by omega) (by omega)).mono ?_; rintro e w' ⟨rfl, rfl⟩) | (refine (inS_out _ _ _ _ (by omega)).mono ?_; rintro e w' ⟨rfl, rfl⟩))
    refine HC.out.mono ?_
    rintro r w1 ⟨rfl, hb1⟩
    have HB1 := Hid.mk' (bel_next HB0.out hb1)
    have HRD1 := Hid.mk' (HRD.out.below hb1)
    have HL1 := Hid.mk' (l5_below HL0.out hb1 (by simp))
    have hlt1 : w.heap.size < w1.heap.size := Nat.lt_of_lt_of_le (by simp) hb1.size
    clear hb1 HC HL0 HB0 HRD
    obtain ⟨l0, l1, l2, l3, l4⟩ := HL1.out
    go_wp2_with fail
    refine (manyS 1 (by omega) _).mono ?_
    rintro r w' ⟨rfl, hw'⟩
    obtain rfl := hw'.symm
    clear hw'
    rw [show ((nmd 1 : Nat) : Int) = 1 from rfl]
    have HS1 := HL1
    have HNA := Hid.mk' (fun u => namesS u)
    go_wp2_with fail
    have hl5 : L5 w1 w.heap.size 1 to a b pa n cap := ⟨l0, l1, l2, l3, l4⟩
    have HL5 := Hid.mk' hl5
    have HLT := Hid.mk' hlt1
    clear l0 l1 l2 l3 l4 hl5
    rename_i K0 hK0
    refine wp_region_held_drew (S := fun u => L5 u w.heap.size 1 to a b pa n cap) (by kernel_rfl) (by first | with_reducible exact HL5.out | with_reducible exact l5_drew HL5.out | with_reducible exact l5_below HL5.out ((Below.refl _ _).alloc (Nat.le_refl _) _) HLT.out | with_reducible exact l5_below HL5.out (((Below.refl _ _).alloc (Nat.le_refl _) _).drew) HLT.out | with_reducible exact l5_below HL5.out (((Below.refl _ _).alloc (Nat.le_refl _) _).alloc (by simp) _) HLT.out | with_reducible exact l5_below HL5.out ((((Below.refl _ _).alloc (Nat.le_refl _) _).alloc (by simp) _).drew) HLT.out | with_reducible exact l5_below HL5.out ((((Below.refl _ _).drew).alloc (by simp) _).alloc (by simp) _) HLT.out | with_reducible exact l5_below HL5.out (((Below.refl _ _).drew).alloc (by simp) _) HLT.out) (fun hHeld => ?_)
    refine wpAnyH_take (i := 1) (v := ?_) rfl (by kernel_rfl) (by kernel_rfl) (by kernel_rfl) (fun _ _ _ h => h) (Or.inl ⟨by rfl, ?_⟩) (by assumption) ?_
    rotate_left
    · (intro w9 hSw; (try dsimp only at hSw); go_simp) <;> with_reducible rfl
    try simp only [Act.put, List.getElem_toArray, List.getElem_cons_succ, List.getElem_cons_zero, List.setIfInBounds_toArray, List.set_cons_zero, List.set_cons_succ]
    refine wpAnyH_take (i := 2) (v := ?_) rfl (by kernel_rfl) (by kernel_rfl) (by kernel_rfl) (fun _ _ _ h => h) (Or.inl ⟨by rfl, ?_⟩) (by assumption) ?_
    rotate_left
    · (intro w9 hSw; (try dsimp only at hSw); go_simp) <;> with_reducible rfl
    try simp only [Act.put, List.getElem_toArray, List.getElem_cons_succ, List.getElem_cons_zero, List.setIfInBounds_toArray, List.set_cons_zero, List.set_cons_succ]
    refine wpAnyH_take (i := 6) (v := ?_) rfl (by kernel_rfl) (by kernel_rfl) (by kernel_rfl) (fun _ _ _ h => h) (Or.inl ⟨by rfl, ?_⟩) (by assumption) ?_
    rotate_left
    · (intro w9 hSw; (try dsimp only at hSw); go_simp) <;> with_reducible rfl
    try simp only [Act.put, List.getElem_toArray, List.getElem_cons_succ, List.getElem_cons_zero, List.setIfInBounds_toArray, List.set_cons_zero, List.set_cons_succ]
    refine wpAnyH_take (i := 7) (v := ?_) rfl (by kernel_rfl) (by kernel_rfl) (by kernel_rfl) (fun _ _ _ h => h) (Or.inl ⟨by rfl, ?_⟩) (by assumption) ?_
    rotate_left
    · (intro w9 hSw; (try dsimp only at hSw); go_simp) <;> with_reducible rfl
    try simp only [Act.put, List.getElem_toArray, List.getElem_cons_succ, List.getElem_cons_zero, List.setIfInBounds_toArray, List.set_cons_zero, List.set_cons_succ]
    refine wpAnyH_take (i := 8) (v := ?_) rfl (by kernel_rfl) (by kernel_rfl) (by kernel_rfl) (fun _ _ _ h => h) (Or.inl ⟨by rfl, ?_⟩) (by assumption) ?_
    rotate_left
    · (intro w9 hSw; (try dsimp only at hSw); go_simp) <;> with_reducible rfl
    try simp only [Act.put, List.getElem_toArray, List.getElem_cons_succ, List.getElem_cons_zero, List.setIfInBounds_toArray, List.set_cons_zero, List.set_cons_succ]
    refine wpAnyH_take (i := 9) (v := ?_) rfl (by kernel_rfl) (by kernel_rfl) (by kernel_rfl) (fun _ _ _ h => h) (Or.inl ⟨by rfl, ?_⟩) (by assumption) ?_
    rotate_left
    · (intro w9 hSw; (try dsimp only at hSw); go_simp) <;> with_reducible rfl
    try simp only [Act.put, List.getElem_toArray, List.getElem_cons_succ, List.getElem_cons_zero, List.setIfInBounds_toArray, List.set_cons_zero, List.set_cons_succ]
    refine wpAnyH_ready (rs := [0, 10]) (by kernel_rfl) (by simp) ?_
    refine AllReadyH.cons rfl (fun K hK => ?_) ?_
    rotate_left
    refine AllReadyH.cons rfl (fun K hK => ?_) AllReadyH.nil
    go_simp
    (repeat (rename_i hwq; clear hwq))
    refine hK.out _ _ (by first | with_reducible exact HL5.out | with_reducible exact l5_drew HL5.out | with_reducible exact l5_below HL5.out ((Below.refl _ _).alloc (Nat.le_refl _) _) HLT.out | with_reducible exact l5_below HL5.out (((Below.refl _ _).alloc (Nat.le_refl _) _).drew) HLT.out | with_reducible exact l5_below HL5.out (((Below.refl _ _).alloc (Nat.le_refl _) _).alloc (by simp) _) HLT.out | with_reducible exact l5_below HL5.out ((((Below.refl _ _).alloc (Nat.le_refl _) _).alloc (by simp) _).drew) HLT.out | with_reducible exact l5_below HL5.out ((((Below.refl _ _).drew).alloc (by simp) _).alloc (by simp) _) HLT.out | with_reducible exact l5_below HL5.out (((Below.refl _ _).drew).alloc (by simp) _) HLT.out) (fun hHeld2 => ?_)
    clear hK K hHeld
    have hHeld := hHeld2
    clear hHeld2
    try simp only [Act.put, List.getElem_toArray, List.getElem_cons_succ, List.getElem_cons_zero, List.setIfInBounds_toArray, List.set_cons_zero, List.set_cons_succ]
    refine wpAnyH_ready (rs := [0, 11]) (by kernel_rfl) (by simp) ?_
    refine AllReadyH.cons rfl (fun K hK => ?_) ?_
    rotate_left
    refine AllReadyH.cons rfl (fun K hK => ?_) AllReadyH.nil
    go_simp
    (repeat (rename_i hwq; clear hwq))
    refine hK.out _ _ (by first | with_reducible exact HL5.out | with_reducible exact l5_drew HL5.out | with_reducible exact l5_below HL5.out ((Below.refl _ _).alloc (Nat.le_refl _) _) HLT.out | with_reducible exact l5_below HL5.out (((Below.refl _ _).alloc (Nat.le_refl _) _).drew) HLT.out | with_reducible exact l5_below HL5.out (((Below.refl _ _).alloc (Nat.le_refl _) _).alloc (by simp) _) HLT.out | with_reducible exact l5_below HL5.out ((((Below.refl _ _).alloc (Nat.le_refl _) _).alloc (by simp) _).drew) HLT.out | with_reducible exact l5_below HL5.out ((((Below.refl _ _).drew).alloc (by simp) _).alloc (by simp) _) HLT.out | with_reducible exact l5_below HL5.out (((Below.refl _ _).drew).alloc (by simp) _) HLT.out) (fun hHeld2 => ?_)
    clear hK K hHeld
    have hHeld := hHeld2
    clear hHeld2
    try simp only [Act.put, List.getElem_toArray, List.getElem_cons_succ, List.getElem_cons_zero, List.setIfInBounds_toArray, List.set_cons_zero, List.set_cons_succ]
    refine wpAnyH_ready (rs := [0]) (by kernel_rfl) (by simp) ?_
    refine AllReadyH.cons rfl (fun K hK => ?_) AllReadyH.nil
    go_simp
    (repeat (rename_i hwq; clear hwq))
    go_wp2_with (go_at_call 46; refine (HNA.out _).mono ?_; rintro r w' ⟨rfl, hw'⟩; rw [hw']; clear hw')
    refine hK.out _ _ (by first | with_reducible exact HL5.out | with_reducible exact l5_drew HL5.out | with_reducible exact l5_below HL5.out ((Below.refl _ _).alloc (Nat.le_refl _) _) HLT.out | with_reducible exact l5_below HL5.out (((Below.refl _ _).alloc (Nat.le_refl _) _).drew) HLT.out | with_reducible exact l5_below HL5.out (((Below.refl _ _).alloc (Nat.le_refl _) _).alloc (by simp) _) HLT.out | with_reducible exact l5_below HL5.out ((((Below.refl _ _).alloc (Nat.le_refl _) _).alloc (by simp) _).drew) HLT.out | with_reducible exact l5_below HL5.out ((((Below.refl _ _).drew).alloc (by simp) _).alloc (by simp) _) HLT.out | with_reducible exact l5_below HL5.out (((Below.refl _ _).drew).alloc (by simp) _) HLT.out) (fun hHeld2 => ?_)
    clear hK K hHeld
    have hHeld := hHeld2
    clear hHeld2
    try simp only [Act.put, List.getElem_toArray, List.getElem_cons_succ, List.getElem_cons_zero, List.setIfInBounds_toArray, List.set_cons_zero, List.set_cons_succ]
    refine wpAnyH_take (i := 3) (v := ?_) rfl (by kernel_rfl) (by kernel_rfl) (by kernel_rfl) (fun _ _ _ h => h) (Or.inl ⟨by rfl, ?_⟩) (by assumption) ?_
    rotate_left
    · (intro w9 hSw; (try dsimp only at hSw); go_simp) <;> with_reducible rfl
    try simp only [Act.put, List.getElem_toArray, List.getElem_cons_succ, List.getElem_cons_zero, List.setIfInBounds_toArray, List.set_cons_zero, List.set_cons_succ]
    refine wpAnyH_ready (rs := [4]) (by kernel_rfl) (by simp) ?_
    refine AllReadyH.cons rfl (fun K hK => ?_) AllReadyH.nil
    go_simp
    (repeat (rename_i hwq; clear hwq))
    refine hK.out _ _ (by first | with_reducible exact HL5.out | with_reducible exact l5_drew HL5.out | with_reducible exact l5_below HL5.out ((Below.refl _ _).alloc (Nat.le_refl _) _) HLT.out | with_reducible exact l5_below HL5.out (((Below.refl _ _).alloc (Nat.le_refl _) _).drew) HLT.out | with_reducible exact l5_below HL5.out (((Below.refl _ _).alloc (Nat.le_refl _) _).alloc (by simp) _) HLT.out | with_reducible exact l5_below HL5.out ((((Below.refl _ _).alloc (Nat.le_refl _) _).alloc (by simp) _).drew) HLT.out | with_reducible exact l5_below HL5.out ((((Below.refl _ _).drew).alloc (by simp) _).alloc (by simp) _) HLT.out | with_reducible exact l5_below HL5.out (((Below.refl _ _).drew).alloc (by simp) _) HLT.out) (fun hHeld2 => ?_)
    clear hK K hHeld
    have hHeld := hHeld2
    clear hHeld2
    try simp only [Act.put, List.getElem_toArray, List.getElem_cons_succ, List.getElem_cons_zero, List.setIfInBounds_toArray, List.set_cons_zero, List.set_cons_succ]
    refine wpAnyH_take (i := 5) (v := ?_) rfl (by kernel_rfl) (by kernel_rfl) (by kernel_rfl) (fun _ _ _ h => h) (Or.inl ⟨by rfl, ?_⟩) (by assumption) ?_
    rotate_left
    · (intro w9 hSw; (try dsimp only at hSw); go_simp) <;> with_reducible rfl
    try simp only [Act.put, List.getElem_toArray, List.getElem_cons_succ, List.getElem_cons_zero, List.setIfInBounds_toArray, List.set_cons_zero, List.set_cons_succ]
    refine wpAnyH_take (i := 12) (v := ?_) rfl (by kernel_rfl) (by kernel_rfl) (by kernel_rfl) (fun _ _ _ h => h) (Or.inl ⟨by rfl, ?_⟩) (by assumption) ?_
    rotate_left
    · (intro w9 hSw; (try dsimp only at hSw); go_simp) <;> with_reducible rfl
    try simp only [Act.put, List.getElem_toArray, List.getElem_cons_succ, List.getElem_cons_zero, List.setIfInBounds_toArray, List.set_cons_zero, List.set_cons_succ]
    refine wpAnyH_take (i := 13) (v := ?_) rfl (by kernel_rfl) (by kernel_rfl) (by kernel_rfl) (fun _ _ _ h => h) (Or.inl ⟨by rfl, ?_⟩) (by assumption) ?_
    rotate_left
    · (intro w9 hSw; (try dsimp only at hSw); go_simp) <;> with_reducible rfl
    try simp only [Act.put, List.getElem_toArray, List.getElem_cons_succ, List.getElem_cons_zero, List.setIfInBounds_toArray, List.set_cons_zero, List.set_cons_succ]
    refine wpAnyH_done (by kernel_rfl) ?_ _
    rotate_left
    go_simp
    (repeat (rename_i hwq; clear hwq))
    go_wp2_with (go_at_call 46; refine (HNA.out _).mono ?_; rintro r w' ⟨rfl, hw'⟩; rw [hw']; clear hw')
    refine hK.out _ _ (by first | with_reducible exact HL5.out | with_reducible exact l5_drew HL5.out | with_reducible exact l5_below HL5.out ((Below.refl _ _).alloc (Nat.le_refl _) _) HLT.out | with_reducible exact l5_below HL5.out (((Below.refl _ _).alloc (Nat.le_refl _) _).drew) HLT.out | with_reducible exact l5_below HL5.out (((Below.refl _ _).alloc (Nat.le_refl _) _).alloc (by simp) _) HLT.out | with_reducible exact l5_below HL5.out ((((Below.refl _ _).alloc (Nat.le_refl _) _).alloc (by simp) _).drew) HLT.out | with_reducible exact l5_below HL5.out ((((Below.refl _ _).drew).alloc (by simp) _).alloc (by simp) _) HLT.out | with_reducible exact l5_below HL5.out (((Below.refl _ _).drew).alloc (by simp) _) HLT.out) (fun hHeld2 => ?_)
    clear hK K hHeld
    have hHeld := hHeld2
    clear hHeld2
    try simp only [Act.put, List.getElem_toArray, List.getElem_cons_succ, List.getElem_cons_zero, List.setIfInBounds_toArray, List.set_cons_zero, List.set_cons_succ]
    refine wpAnyH_take (i := 3) (v := ?_) rfl (by kernel_rfl) (by kernel_rfl) (by kernel_rfl) (fun _ _ _ h => h) (Or.inl ⟨by rfl, ?_⟩) (by assumption) ?_
    rotate_left
    · (intro w9 hSw; (try dsimp only at hSw); go_simp) <;> with_reducible rfl
    try simp only [Act.put, List.getElem_toArray, List.getElem_cons_succ, List.getElem_cons_zero, List.setIfInBounds_toArray, List.set_cons_zero, List.set_cons_succ]
    refine wpAnyH_ready (rs := [4, 10]) (by kernel_rfl) (by simp) ?_
    refine AllReadyH.cons rfl (fun K hK => ?_) ?_
    rotate_left
    refine AllReadyH.cons rfl (fun K hK => ?_) AllReadyH.nil
    go_simp
    (repeat (rename_i hwq; clear hwq))
    refine hK.out _ _ (by first | with_reducible exact HL5.out | with_reducible exact l5_drew HL5.out | with_reducible exact l5_below HL5.out ((Below.refl _ _).alloc (Nat.le_refl _) _) HLT.out | with_reducible exact l5_below HL5.out (((Below.refl _ _).alloc (Nat.le_refl _) _).drew) HLT.out | with_reducible exact l5_below HL5.out (((Below.refl _ _).alloc (Nat.le_refl _) _).alloc (by simp) _) HLT.out | with_reducible exact l5_below HL5.out ((((Below.refl _ _).alloc (Nat.le_refl _) _).alloc (by simp) _).drew) HLT.out | with_reducible exact l5_below HL5.out ((((Below.refl _ _).drew).alloc (by simp) _).alloc (by simp) _) HLT.out | with_reducible exact l5_below HL5.out (((Below.refl _ _).drew).alloc (by simp) _) HLT.out) (fun hHeld2 => ?_)
    clear hK K hHeld
    have hHeld := hHeld2
    clear hHeld2
    try simp only [Act.put, List.getElem_toArray, List.getElem_cons_succ, List.getElem_cons_zero, List.setIfInBounds_toArray, List.set_cons_zero, List.set_cons_succ]
    refine wpAnyH_ready (rs := [4, 11]) (by kernel_rfl) (by simp) ?_
    refine AllReadyH.cons rfl (fun K hK => ?_) ?_
    rotate_left
    refine AllReadyH.cons rfl (fun K hK => ?_) AllReadyH.nil
    go_simp
    (repeat (rename_i hwq; clear hwq))
    refine hK.out _ _ (by first | with_reducible exact HL5.out | with_reducible exact l5_drew HL5.out | with_reducible exact l5_below HL5.out ((Below.refl _ _).alloc (Nat.le_refl _) _) HLT.out | with_reducible exact l5_below HL5.out (((Below.refl _ _).alloc (Nat.le_refl _) _).drew) HLT.out | with_reducible exact l5_below HL5.out (((Below.refl _ _).alloc (Nat.le_refl _) _).alloc (by simp) _) HLT.out | with_reducible exact l5_below HL5.out ((((Below.refl _ _).alloc (Nat.le_refl _) _).alloc (by simp) _).drew) HLT.out | with_reducible exact l5_below HL5.out ((((Below.refl _ _).drew).alloc (by simp) _).alloc (by simp) _) HLT.out | with_reducible exact l5_below HL5.out (((Below.refl _ _).drew).alloc (by simp) _) HLT.out) (fun hHeld2 => ?_)
    clear hK K hHeld
    have hHeld := hHeld2
    clear hHeld2
    try simp only [Act.put, List.getElem_toArray, List.getElem_cons_succ, List.getElem_cons_zero, List.setIfInBounds_toArray, List.set_cons_zero, List.set_cons_succ]
    refine wpAnyH_ready (rs := [4]) (by kernel_rfl) (by simp) ?_
    refine AllReadyH.cons rfl (fun K hK => ?_) AllReadyH.nil
    go_simp
    (repeat (rename_i hwq; clear hwq))
    refine hK.out _ _ (by first | with_reducible exact HL5.out | with_reducible exact l5_drew HL5.out | with_reducible exact l5_below HL5.out ((Below.refl _ _).alloc (Nat.le_refl _) _) HLT.out | with_reducible exact l5_below HL5.out (((Below.refl _ _).alloc (Nat.le_refl _) _).drew) HLT.out | with_reducible exact l5_below HL5.out (((Below.refl _ _).alloc (Nat.le_refl _) _).alloc (by simp) _) HLT.out | with_reducible exact l5_below HL5.out ((((Below.refl _ _).alloc (Nat.le_refl _) _).alloc (by simp) _).drew) HLT.out | with_reducible exact l5_below HL5.out ((((Below.refl _ _).drew).alloc (by simp) _).alloc (by simp) _) HLT.out | with_reducible exact l5_below HL5.out (((Below.refl _ _).drew).alloc (by simp) _) HLT.out) (fun hHeld2 => ?_)
    clear hK K hHeld
    have hHeld := hHeld2
    clear hHeld2
    try simp only [Act.put, List.getElem_toArray, List.getElem_cons_succ, List.getElem_cons_zero, List.setIfInBounds_toArray, List.set_cons_zero, List.set_cons_succ]
    refine wpAnyH_take (i := 5) (v := ?_) rfl (by kernel_rfl) (by kernel_rfl) (by kernel_rfl) (fun _ _ _ h => h) (Or.inl ⟨by rfl, ?_⟩) (by assumption) ?_
    rotate_left
    · (intro w9 hSw; (try dsimp only at hSw); go_simp) <;> with_reducible rfl
    try simp only [Act.put, List.getElem_toArray, List.getElem_cons_succ, List.getElem_cons_zero, List.setIfInBounds_toArray, List.set_cons_zero, List.set_cons_succ]
    refine wpAnyH_take (i := 12) (v := ?_) rfl (by kernel_rfl) (by kernel_rfl) (by kernel_rfl) (fun _ _ _ h => h) (Or.inl ⟨by rfl, ?_⟩) (by assumption) ?_
    rotate_left
    · (intro w9 hSw; (try dsimp only at hSw); go_simp) <;> with_reducible rfl
    try simp only [Act.put, List.getElem_toArray, List.getElem_cons_succ, List.getElem_cons_zero, List.setIfInBounds_toArray, List.set_cons_zero, List.set_cons_succ]
    refine wpAnyH_take (i := 13) (v := ?_) rfl (by kernel_rfl) (by kernel_rfl) (by kernel_rfl) (fun _ _ _ h => h) (Or.inl ⟨by rfl, ?_⟩) (by assumption) ?_
    rotate_left
    · (intro w9 hSw; (try dsimp only at hSw); go_simp) <;> with_reducible rfl
    try simp only [Act.put, List.getElem_toArray, List.getElem_cons_succ, List.getElem_cons_zero, List.setIfInBounds_toArray, List.set_cons_zero, List.set_cons_succ]
    refine wpAnyH_done (by kernel_rfl) ?_ _
    rotate_left
    go_simp
    (repeat (rename_i hwq; clear hwq))
    go_wp2_with (go_at_call 46; refine (HNA.out _).mono ?_; rintro r w' ⟨rfl, hw'⟩; rw [hw']; clear hw')
    refine hK.out _ _ (by first | with_reducible exact HL5.out | with_reducible exact l5_drew HL5.out | with_reducible exact l5_below HL5.out ((Below.refl _ _).alloc (Nat.le_refl _) _) HLT.out | with_reducible exact l5_below HL5.out (((Below.refl _ _).alloc (Nat.le_refl _) _).drew) HLT.out | with_reducible exact l5_below HL5.out (((Below.refl _ _).alloc (Nat.le_refl _) _).alloc (by simp) _) HLT.out | with_reducible exact l5_below HL5.out ((((Below.refl _ _).alloc (Nat.le_refl _) _).alloc (by simp) _).drew) HLT.out | with_reducible exact l5_below HL5.out ((((Below.refl _ _).drew).alloc (by simp) _).alloc (by simp) _) HLT.out | with_reducible exact l5_below HL5.out (((Below.refl _ _).drew).alloc (by simp) _) HLT.out) (fun hHeld2 => ?_)
    clear hK K hHeld
    have hHeld := hHeld2
    clear hHeld2
    try simp only [Act.put, List.getElem_toArray, List.getElem_cons_succ, List.getElem_cons_zero, List.setIfInBounds_toArray, List.set_cons_zero, List.set_cons_succ]
    refine wpAnyH_take (i := 3) (v := ?_) rfl (by kernel_rfl) (by kernel_rfl) (by kernel_rfl) (fun _ _ _ h => h) (Or.inl ⟨by rfl, ?_⟩) (by assumption) ?_
    rotate_left
    · (intro w9 hSw; (try dsimp only at hSw); go_simp) <;> with_reducible rfl
    try simp only [Act.put, List.getElem_toArray, List.getElem_cons_succ, List.getElem_cons_zero, List.setIfInBounds_toArray, List.set_cons_zero, List.set_cons_succ]
    refine wpAnyH_ready (rs := [4, 11]) (by kernel_rfl) (by simp) ?_
    refine AllReadyH.cons rfl (fun K hK => ?_) ?_
    rotate_left
    refine AllReadyH.cons rfl (fun K hK => ?_) AllReadyH.nil
    go_simp
    (repeat (rename_i hwq; clear hwq))
    refine hK.out _ _ (by first | with_reducible exact HL5.out | with_reducible exact l5_drew HL5.out | with_reducible exact l5_below HL5.out ((Below.refl _ _).alloc (Nat.le_refl _) _) HLT.out | with_reducible exact l5_below HL5.out (((Below.refl _ _).alloc (Nat.le_refl _) _).drew) HLT.out | with_reducible exact l5_below HL5.out (((Below.refl _ _).alloc (Nat.le_refl _) _).alloc (by simp) _) HLT.out | with_reducible exact l5_below HL5.out ((((Below.refl _ _).alloc (Nat.le_refl _) _).alloc (by simp) _).drew) HLT.out | with_reducible exact l5_below HL5.out ((((Below.refl _ _).drew).alloc (by simp) _).alloc (by simp) _) HLT.out | with_reducible exact l5_below HL5.out (((Below.refl _ _).drew).alloc (by simp) _) HLT.out) (fun hHeld2 => ?_)
    clear hK K hHeld
    have hHeld := hHeld2
    clear hHeld2
    try simp only [Act.put, List.getElem_toArray, List.getElem_cons_succ, List.getElem_cons_zero, List.setIfInBounds_toArray, List.set_cons_zero, List.set_cons_succ]
    refine wpAnyH_ready (rs := [4]) (by kernel_rfl) (by simp) ?_
    refine AllReadyH.cons rfl (fun K hK => ?_) AllReadyH.nil
    go_simp
    (repeat (rename_i hwq; clear hwq))
    refine hK.out _ _ (by first | with_reducible exact HL5.out | with_reducible exact l5_drew HL5.out | with_reducible exact l5_below HL5.out ((Below.refl _ _).alloc (Nat.le_refl _) _) HLT.out | with_reducible exact l5_below HL5.out (((Below.refl _ _).alloc (Nat.le_refl _) _).drew) HLT.out | with_reducible exact l5_below HL5.out (((Below.refl _ _).alloc (Nat.le_refl _) _).alloc (by simp) _) HLT.out | with_reducible exact l5_below HL5.out ((((Below.refl _ _).alloc (Nat.le_refl _) _).alloc (by simp) _).drew) HLT.out | with_reducible exact l5_below HL5.out ((((Below.refl _ _).drew).alloc (by simp) _).alloc (by simp) _) HLT.out | with_reducible exact l5_below HL5.out (((Below.refl _ _).drew).alloc (by simp) _) HLT.out) (fun hHeld2 => ?_)
    clear hK K hHeld
    have hHeld := hHeld2
    clear hHeld2
    try simp only [Act.put, List.getElem_toArray, List.getElem_cons_succ, List.getElem_cons_zero, List.setIfInBounds_toArray, List.set_cons_zero, List.set_cons_succ]
    refine wpAnyH_take (i := 5) (v := ?_) rfl (by kernel_rfl) (by kernel_rfl) (by kernel_rfl) (fun _ _ _ h => h) (Or.inl ⟨by rfl, ?_⟩) (by assumption) ?_
    rotate_left
    · (intro w9 hSw; (try dsimp only at hSw); go_simp) <;> with_reducible rfl
    try simp only [Act.put, List.getElem_toArray, List.getElem_cons_succ, List.getElem_cons_zero, List.setIfInBounds_toArray, List.set_cons_zero, List.set_cons_succ]
    refine wpAnyH_take (i := 12) (v := ?_) rfl (by kernel_rfl) (by kernel_rfl) (by kernel_rfl) (fun _ _ _ h => h) (Or.inl ⟨by rfl, ?_⟩) (by assumption) ?_
    rotate_left
    · (intro w9 hSw; (try dsimp only at hSw); go_simp) <;> with_reducible rfl
    try simp only [Act.put, List.getElem_toArray, List.getElem_cons_succ, List.getElem_cons_zero, List.setIfInBounds_toArray, List.set_cons_zero, List.set_cons_succ]
    refine wpAnyH_take (i := 13) (v := ?_) rfl (by kernel_rfl) (by kernel_rfl) (by kernel_rfl) (fun _ _ _ h => h) (Or.inl ⟨by rfl, ?_⟩) (by assumption) ?_
    rotate_left
    · (intro w9 hSw; (try dsimp only at hSw); go_simp) <;> with_reducible rfl
    try simp only [Act.put, List.getElem_toArray, List.getElem_cons_succ, List.getElem_cons_zero, List.setIfInBounds_toArray, List.set_cons_zero, List.set_cons_succ]
    refine wpAnyH_done (by kernel_rfl) ?_ _
    rotate_left
    rotate_left
    go_simp
    (repeat (rename_i hwq; clear hwq))
    refine hK.out _ _ (by first | with_reducible exact HL5.out | with_reducible exact l5_drew HL5.out | with_reducible exact l5_below HL5.out ((Below.refl _ _).alloc (Nat.le_refl _) _) HLT.out | with_reducible exact l5_below HL5.out (((Below.refl _ _).alloc (Nat.le_refl _) _).drew) HLT.out | with_reducible exact l5_below HL5.out (((Below.refl _ _).alloc (Nat.le_refl _) _).alloc (by simp) _) HLT.out | with_reducible exact l5_below HL5.out ((((Below.refl _ _).alloc (Nat.le_refl _) _).alloc (by simp) _).drew) HLT.out | with_reducible exact l5_below HL5.out ((((Below.refl _ _).drew).alloc (by simp) _).alloc (by simp) _) HLT.out | with_reducible exact l5_below HL5.out (((Below.refl _ _).drew).alloc (by simp) _) HLT.out) (fun hHeld2 => ?_)
    clear hK K hHeld
    have hHeld := hHeld2
    clear hHeld2
    try simp only [Act.put, List.getElem_toArray, List.getElem_cons_succ, List.getElem_cons_zero, List.setIfInBounds_toArray, List.set_cons_zero, List.set_cons_succ]
    refine wpAnyH_take (i := 5) (v := ?_) rfl (by kernel_rfl) (by kernel_rfl) (by kernel_rfl) (fun _ _ _ h => h) (Or.inl ⟨by rfl, ?_⟩) (by assumption) ?_
    rotate_left
    · (intro w9 hSw; (try dsimp only at hSw); go_simp) <;> with_reducible rfl
    try simp only [Act.put, List.getElem_toArray, List.getElem_cons_succ, List.getElem_cons_zero, List.setIfInBounds_toArray, List.set_cons_zero, List.set_cons_succ]
    refine wpAnyH_ready (rs := [10]) (by kernel_rfl) (by simp) ?_
    refine AllReadyH.cons rfl (fun K hK => ?_) AllReadyH.nil
    go_simp
    (repeat (rename_i hwq; clear hwq))
    refine hK.out _ _ (by first | with_reducible exact HL5.out | with_reducible exact l5_drew HL5.out | with_reducible exact l5_below HL5.out ((Below.refl _ _).alloc (Nat.le_refl _) _) HLT.out | with_reducible exact l5_below HL5.out (((Below.refl _ _).alloc (Nat.le_refl _) _).drew) HLT.out | with_reducible exact l5_below HL5.out (((Below.refl _ _).alloc (Nat.le_refl _) _).alloc (by simp) _) HLT.out | with_reducible exact l5_below HL5.out ((((Below.refl _ _).alloc (Nat.le_refl _) _).alloc (by simp) _).drew) HLT.out | with_reducible exact l5_below HL5.out ((((Below.refl _ _).drew).alloc (by simp) _).alloc (by simp) _) HLT.out | with_reducible exact l5_below HL5.out (((Below.refl _ _).drew).alloc (by simp) _) HLT.out) (fun hHeld2 => ?_)
    clear hK K hHeld
    have hHeld := hHeld2
    clear hHeld2
    try simp only [Act.put, List.getElem_toArray, List.getElem_cons_succ, List.getElem_cons_zero, List.setIfInBounds_toArray, List.set_cons_zero, List.set_cons_succ]
    refine wpAnyH_ready (rs := [11]) (by kernel_rfl) (by simp) ?_
    refine AllReadyH.cons rfl (fun K hK => ?_) AllReadyH.nil
    go_simp
    (repeat (rename_i hwq; clear hwq))
    refine hK.out _ _ (by first | with_reducible exact HL5.out | with_reducible exact l5_drew HL5.out | with_reducible exact l5_below HL5.out ((Below.refl _ _).alloc (Nat.le_refl _) _) HLT.out | with_reducible exact l5_below HL5.out (((Below.refl _ _).alloc (Nat.le_refl _) _).drew) HLT.out | with_reducible exact l5_below HL5.out (((Below.refl _ _).alloc (Nat.le_refl _) _).alloc (by simp) _) HLT.out | with_reducible exact l5_below HL5.out ((((Below.refl _ _).alloc (Nat.le_refl _) _).alloc (by simp) _).drew) HLT.out | with_reducible exact l5_below HL5.out ((((Below.refl _ _).drew).alloc (by simp) _).alloc (by simp) _) HLT.out | with_reducible exact l5_below HL5.out (((Below.refl _ _).drew).alloc (by simp) _) HLT.out) (fun hHeld2 => ?_)
    clear hK K hHeld
    have hHeld := hHeld2
    clear hHeld2
    try simp only [Act.put, List.getElem_toArray, List.getElem_cons_succ, List.getElem_cons_zero, List.setIfInBounds_toArray, List.set_cons_zero, List.set_cons_succ]
    refine wpAnyH_take (i := 12) (v := ?_) rfl (by kernel_rfl) (by kernel_rfl) (by kernel_rfl) (fun _ _ _ h => h) (Or.inl ⟨by rfl, ?_⟩) (by assumption) ?_
    rotate_left
    · (intro w9 hSw; (try dsimp only at hSw); go_simp) <;> with_reducible rfl
    try simp only [Act.put, List.getElem_toArray, List.getElem_cons_succ, List.getElem_cons_zero, List.setIfInBounds_toArray, List.set_cons_zero, List.set_cons_succ]
    refine wpAnyH_take (i := 13) (v := ?_) rfl (by kernel_rfl) (by kernel_rfl) (by kernel_rfl) (fun _ _ _ h => h) (Or.inl ⟨by rfl, ?_⟩) (by assumption) ?_
    rotate_left
    · (intro w9 hSw; (try dsimp only at hSw); go_simp) <;> with_reducible rfl
    try simp only [Act.put, List.getElem_toArray, List.getElem_cons_succ, List.getElem_cons_zero, List.setIfInBounds_toArray, List.set_cons_zero, List.set_cons_succ]
    refine wpAnyH_done (by kernel_rfl) ?_ _
    rotate_left
    go_simp
    (repeat (rename_i hwq; clear hwq))
    refine hK.out _ _ (by first | with_reducible exact HL5.out | with_reducible exact l5_drew HL5.out | with_reducible exact l5_below HL5.out ((Below.refl _ _).alloc (Nat.le_refl _) _) HLT.out | with_reducible exact l5_below HL5.out (((Below.refl _ _).alloc (Nat.le_refl _) _).drew) HLT.out | with_reducible exact l5_below HL5.out (((Below.refl _ _).alloc (Nat.le_refl _) _).alloc (by simp) _) HLT.out | with_reducible exact l5_below HL5.out ((((Below.refl _ _).alloc (Nat.le_refl _) _).alloc (by simp) _).drew) HLT.out | with_reducible exact l5_below HL5.out ((((Below.refl _ _).drew).alloc (by simp) _).alloc (by simp) _) HLT.out | with_reducible exact l5_below HL5.out (((Below.refl _ _).drew).alloc (by simp) _) HLT.out) (fun hHeld2 => ?_)
    clear hK K hHeld
    have hHeld := hHeld2
    clear hHeld2
    try simp only [Act.put, List.getElem_toArray, List.getElem_cons_succ, List.getElem_cons_zero, List.setIfInBounds_toArray, List.set_cons_zero, List.set_cons_succ]
    refine wpAnyH_take (i := 5) (v := ?_) rfl (by kernel_rfl) (by kernel_rfl) (by kernel_rfl) (fun _ _ _ h => h) (Or.inl ⟨by rfl, ?_⟩) (by assumption) ?_
    rotate_left
    · (intro w9 hSw; (try dsimp only at hSw); go_simp) <;> with_reducible rfl
    try simp only [Act.put, List.getElem_toArray, List.getElem_cons_succ, List.getElem_cons_zero, List.setIfInBounds_toArray, List.set_cons_zero, List.set_cons_succ]
    refine wpAnyH_ready (rs := [11]) (by kernel_rfl) (by simp) ?_
    refine AllReadyH.cons rfl (fun K hK => ?_) AllReadyH.nil
    go_simp
    (repeat (rename_i hwq; clear hwq))
    refine hK.out _ _ (by first | with_reducible exact HL5.out | with_reducible exact l5_drew HL5.out | with_reducible exact l5_below HL5.out ((Below.refl _ _).alloc (Nat.le_refl _) _) HLT.out | with_reducible exact l5_below HL5.out (((Below.refl _ _).alloc (Nat.le_refl _) _).drew) HLT.out | with_reducible exact l5_below HL5.out (((Below.refl _ _).alloc (Nat.le_refl _) _).alloc (by simp) _) HLT.out | with_reducible exact l5_below HL5.out ((((Below.refl _ _).alloc (Nat.le_refl _) _).alloc (by simp) _).drew) HLT.out | with_reducible exact l5_below HL5.out ((((Below.refl _ _).drew).alloc (by simp) _).alloc (by simp) _) HLT.out | with_reducible exact l5_below HL5.out (((Below.refl _ _).drew).alloc (by simp) _) HLT.out) (fun hHeld2 => ?_)
    clear hK K hHeld
    have hHeld := hHeld2
    clear hHeld2
    try simp only [Act.put, List.getElem_toArray, List.getElem_cons_succ, List.getElem_cons_zero, List.setIfInBounds_toArray, List.set_cons_zero, List.set_cons_succ]
    refine wpAnyH_take (i := 12) (v := ?_) rfl (by kernel_rfl) (by kernel_rfl) (by kernel_rfl) (fun _ _ _ h => h) (Or.inl ⟨by rfl, ?_⟩) (by assumption) ?_
    rotate_left
    · (intro w9 hSw; (try dsimp only at hSw); go_simp) <;> with_reducible rfl
    try simp only [Act.put, List.getElem_toArray, List.getElem_cons_succ, List.getElem_cons_zero, List.setIfInBounds_toArray, List.set_cons_zero, List.set_cons_succ]
    refine wpAnyH_take (i := 13) (v := ?_) rfl (by kernel_rfl) (by kernel_rfl) (by kernel_rfl) (fun _ _ _ h => h) (Or.inl ⟨by rfl, ?_⟩) (by assumption) ?_
    rotate_left
    · (intro w9 hSw; (try dsimp only at hSw); go_simp) <;> with_reducible rfl
    try simp only [Act.put, List.getElem_toArray, List.getElem_cons_succ, List.getElem_cons_zero, List.setIfInBounds_toArray, List.set_cons_zero, List.set_cons_succ]
    refine wpAnyH_done (by kernel_rfl) ?_ _
    rotate_left
    rotate_left
    go_simp
    (repeat (rename_i hwq; clear hwq))
    refine hK.out _ _ (by first | with_reducible exact HL5.out | with_reducible exact l5_drew HL5.out | with_reducible exact l5_below HL5.out ((Below.refl _ _).alloc (Nat.le_refl _) _) HLT.out | with_reducible exact l5_below HL5.out (((Below.refl _ _).alloc (Nat.le_refl _) _).drew) HLT.out | with_reducible exact l5_below HL5.out (((Below.refl _ _).alloc (Nat.le_refl _) _).alloc (by simp) _) HLT.out | with_reducible exact l5_below HL5.out ((((Below.refl _ _).alloc (Nat.le_refl _) _).alloc (by simp) _).drew) HLT.out | with_reducible exact l5_below HL5.out ((((Below.refl _ _).drew).alloc (by simp) _).alloc (by simp) _) HLT.out | with_reducible exact l5_below HL5.out (((Below.refl _ _).drew).alloc (by simp) _) HLT.out) (fun hHeld2 => ?_)
    clear hK K hHeld
    have hHeld := hHeld2
    clear hHeld2
    try simp only [Act.put, List.getElem_toArray, List.getElem_cons_succ, List.getElem_cons_zero, List.setIfInBounds_toArray, List.set_cons_zero, List.set_cons_succ]
    refine wpAnyH_take (i := 5) (v := ?_) rfl (by kernel_rfl) (by kernel_rfl) (by kernel_rfl) (fun _ _ _ h => h) (Or.inl ⟨by rfl, ?_⟩) (by assumption) ?_
    rotate_left
    · (intro w9 hSw; (try dsimp only at hSw); go_simp) <;> with_reducible rfl
    try simp only [Act.put, List.getElem_toArray, List.getElem_cons_succ, List.getElem_cons_zero, List.setIfInBounds_toArray, List.set_cons_zero, List.set_cons_succ]
    refine wpAnyH_ready (rs := [11]) (by kernel_rfl) (by simp) ?_
    refine AllReadyH.cons rfl (fun K hK => ?_) AllReadyH.nil
    go_simp
    (repeat (rename_i hwq; clear hwq))
    refine hK.out _ _ (by first | with_reducible exact HL5.out | with_reducible exact l5_drew HL5.out | with_reducible exact l5_below HL5.out ((Below.refl _ _).alloc (Nat.le_refl _) _) HLT.out | with_reducible exact l5_below HL5.out (((Below.refl _ _).alloc (Nat.le_refl _) _).drew) HLT.out | with_reducible exact l5_below HL5.out (((Below.refl _ _).alloc (Nat.le_refl _) _).alloc (by simp) _) HLT.out | with_reducible exact l5_below HL5.out ((((Below.refl _ _).alloc (Nat.le_refl _) _).alloc (by simp) _).drew) HLT.out | with_reducible exact l5_below HL5.out ((((Below.refl _ _).drew).alloc (by simp) _).alloc (by simp) _) HLT.out | with_reducible exact l5_below HL5.out (((Below.refl _ _).drew).alloc (by simp) _) HLT.out) (fun hHeld2 => ?_)
    clear hK K hHeld
    have hHeld := hHeld2
    clear hHeld2
    try simp only [Act.put, List.getElem_toArray, List.getElem_cons_succ, List.getElem_cons_zero, List.setIfInBounds_toArray, List.set_cons_zero, List.set_cons_succ]
    refine wpAnyH_take (i := 12) (v := ?_) rfl (by kernel_rfl) (by kernel_rfl) (by kernel_rfl) (fun _ _ _ h => h) (Or.inl ⟨by rfl, ?_⟩) (by assumption) ?_
    rotate_left
    · (intro w9 hSw; (try dsimp only at hSw); go_simp) <;> with_reducible rfl
    try simp only [Act.put, List.getElem_toArray, List.getElem_cons_succ, List.getElem_cons_zero, List.setIfInBounds_toArray, List.set_cons_zero, List.set_cons_succ]
    refine wpAnyH_take (i := 13) (v := ?_) rfl (by kernel_rfl) (by kernel_rfl) (by kernel_rfl) (fun _ _ _ h => h) (Or.inl ⟨by rfl, ?_⟩) (by assumption) ?_
    rotate_left
    · (intro w9 hSw; (try dsimp only at hSw); go_simp) <;> with_reducible rfl
    try simp only [Act.put, List.getElem_toArray, List.getElem_cons_succ, List.getElem_cons_zero, List.setIfInBounds_toArray, List.set_cons_zero, List.set_cons_succ]
    refine wpAnyH_done (by kernel_rfl) ?_ _
    rotate_left
    all_goals (
      go_wp2_with fail
      refine (HTX.out _ (HRD1.out.below ?_)).mono ?_
      · repeat (first | with_reducible exact Below.refl _ _ | with_reducible refine bel_d ?_ | with_reducible refine bel_a ?_)
      rintro r w9 ⟨rfl, hb9⟩
      have HB9 : Hid (Below w.heap.size w w9) := Hid.mk' (by
        refine bel_next ?_ hb9
        repeat (first | with_reducible exact HB1.out | with_reducible refine bel_d ?_ | with_reducible refine bel_a ?_))
      clear hb9 HTX HRD1
      by_cases h4 : PT.length ≤ 394
      · have h4I : (PT.length : Int) ≤ 394 := by omega
        have HF : Hid (R = rawL 1 to a b n f) := by rw [← HR.out]; exact Hid.mk' (lnT_is HW.out (by rw [HRAW.out]; simp; omega))
        rw [HRAW.out] at HF
        clear HR HW HRAW HNA
        have h4J : ¬ (400 : Int) < 6 + (PT.length : Int) := by omega
        go_wp2
        go_ret
        refine ⟨congrArg (fun x => Ending.returned (Value.string x)) ?_, HB9.out⟩
        rw [HF.out]; apply ByteArray.ext; simp [ByteArray.data_append]
      · have h4I : ¬ (PT.length : Int) ≤ 394 := by omega
        have HF : Hid (R = []) := by rw [← HR.out]; exact Hid.mk' (lnT_long (by rw [HRAW.out]; simp; omega))
        clear HR HW HRAW HNA
        have h4J : (400 : Int) < 6 + (PT.length : Int) := by omega
        go_wp2
        go_ret
        exact ⟨by rw [HF.out]; rfl, HB9.out⟩)
set_option maxRecDepth 100000 in
set_option maxHeartbeats 8000000 in
theorem dtS8 (to a b : Int) (pa : Option Addr) (n cap : Nat) (f : Nat → T) (w : World) (h : Rd w pa n cap f) :
    Calls Tryz.prog 34 #[.agg #[.int .i64 8, .int .i64 to, .int .i64 a, .int .i64 b, .slice pa n cap]] w fun r w' => r = .returned (.string ⟨(lnT 8 to a b n f).toArray⟩) ∧ Below w.heap.size w w' := by
  have hB0 := bel_one w (.cells #[.int .i64 8, .int .i64 to, .int .i64 a, .int .i64 b, .slice pa n cap] 24)
  have HL0 := Hid.mk' (l5_box w 8 to a b pa n cap)
  have HRD := Hid.mk' (h.below hB0)
  have HB0 := Hid.mk' hB0
  have hnI : (n : Int) ≤ 9223372036854775807 := by have := h.2.1; omega
  clear hB0 h
  obtain ⟨R, hR⟩ : ∃ R, lnT 8 to a b n f = R := ⟨_, rfl⟩
  rw [hR]
  have HR := Hid.mk' hR
  clear hR
  by_cases h1 : to < 0 ∨ (0 ≤ to ∧ 5 < to)
  · have HZ : Hid (R = []) := by rw [← HR.out]; exact Hid.mk' (lnT_no (whl_no (fun q => by have := q.2.1; omega)))
    go_enter Tryz.func34, Tryz.ntmps34
    go_wp2_with (go_at_call 73; first | (refine (inS_in _ _ _ _ (by omega) (by omega)).mono ?_; rintro e w' ⟨rfl, rfl⟩) | (refine (inS_out _ _ _ _ (by omega)).mono ?_; rintro e w' ⟨rfl, rfl⟩))
    go_ret
    exact ⟨by rw [HZ.out]; rfl, HB0.out⟩
  by_cases h2 : a < 0 ∨ (0 ≤ a ∧ 5 < a)
  · have HZ : Hid (R = []) := by rw [← HR.out]; exact Hid.mk' (lnT_no (whl_no (fun q => by have := q.2.2.1; omega)))
    go_enter Tryz.func34, Tryz.ntmps34
    go_wp2_with (go_at_call 73; first | (refine (inS_in _ _ _ _ (by omega) (by omega)).mono ?_; rintro e w' ⟨rfl, rfl⟩) | (refine (inS_out _ _ _ _ (by omega)).mono ?_; rintro e w' ⟨rfl, rfl⟩))
    go_ret
    exact ⟨by rw [HZ.out]; rfl, HB0.out⟩
  by_cases h3 : b < 0 ∨ (0 ≤ b ∧ 5 < b)
  · have HZ : Hid (R = []) := by rw [← HR.out]; exact Hid.mk' (lnT_no (whl_no (fun q => by have := q.2.2.2.1; omega)))
    go_enter Tryz.func34, Tryz.ntmps34
    go_wp2_with (go_at_call 73; first | (refine (inS_in _ _ _ _ (by omega) (by omega)).mono ?_; rintro e w' ⟨rfl, rfl⟩) | (refine (inS_out _ _ _ _ (by omega)).mono ?_; rintro e w' ⟨rfl, rfl⟩))
    go_ret
    exact ⟨by rw [HZ.out]; rfl, HB0.out⟩
  obtain ⟨ok, hok⟩ : ∃ x, polOk n f = x := ⟨_, rfl⟩
  have HC := Hid.mk' (polOkS _ pa n cap f HRD.out)
  rw [hok] at HC
  have t0 : 0 ≤ to := by omega
  have t5 : to ≤ 5 := by omega
  have a0 : 0 ≤ a := by omega
  have a5 : a ≤ 5 := by omega
  have b0 : 0 ≤ b := by omega
  have b5 : b ≤ 5 := by omega
  clear h1 h2 h3
  have HOK := Hid.mk' hok
  clear hok
  cases ok
  · have HZ : Hid (R = []) := by rw [← HR.out]; exact Hid.mk' (lnT_no (whl_no (fun q => by have := q.2.2.2.2.1; rw [HOK.out] at this; cases this)))
    go_enter Tryz.func34, Tryz.ntmps34
    go_wp2_with (go_at_call 73; first | (refine (inS_in _ _ _ _ (by omega) (by omega)).mono ?_; rintro e w' ⟨rfl, rfl⟩) | (refine (inS_out _ _ _ _ (by omega)).mono ?_; rintro e w' ⟨rfl, rfl⟩))
    refine HC.out.mono ?_
    rintro r w1 ⟨rfl, hb1⟩
    have HB1 := Hid.mk' (bel_next HB0.out hb1)
    clear hb1
    go_wp2
    go_ret
    exact ⟨by rw [HZ.out]; rfl, HB1.out⟩
  · skip
    by_cases ha : ¬ a = 0
    · have HZ : Hid (R = []) := by rw [← HR.out]; exact Hid.mk' (lnT_no (whl_no (fun q => ha (by have := q.2.2.2.2.2.1; revert this; simp [nmd]))))
      have hab : (a != 0) = true := by simp [ha]
      go_enter Tryz.func34, Tryz.ntmps34
      go_wp2_with (go_at_call 73; first | (refine (inS_in _ _ _ _ (by omega) (by omega)).mono ?_; rintro e w' ⟨rfl, rfl⟩) | (refine (inS_out _ _ _ _ (by omega)).mono ?_; rintro e w' ⟨rfl, rfl⟩))
      refine HC.out.mono ?_
      rintro r w1 ⟨rfl, hb1⟩
      have HB1 := Hid.mk' (bel_next HB0.out hb1)
      have HRD1 := Hid.mk' (HRD.out.below hb1)
      have HL1 := Hid.mk' (l5_below HL0.out hb1 (by simp))
      have hlt1 : w.heap.size < w1.heap.size := Nat.lt_of_lt_of_le (by simp) hb1.size
      clear hb1 HC HL0 HB0 HRD
      obtain ⟨l0, l1, l2, l3, l4⟩ := HL1.out
      go_wp2_with fail
      refine (manyS 8 (by omega) _).mono ?_
      rintro r w' ⟨rfl, hw'⟩
      obtain rfl := hw'.symm
      clear hw'
      rw [show ((nmd 8 : Nat) : Int) = 1 from rfl]
      go_wp2
      go_ret
      exact ⟨by rw [HZ.out]; rfl, HB1.out⟩
    have ha0 : Hid (a = 0) := Hid.mk' (by omega)
    clear ha
    by_cases hb : ¬ b = 0
    · have HZ : Hid (R = []) := by rw [← HR.out]; exact Hid.mk' (lnT_no (whl_no (fun q => hb (by have := q.2.2.2.2.2.2.1; revert this; simp [nmd]))))
      have hbb : (b != 0) = true := by simp [hb]
      go_enter Tryz.func34, Tryz.ntmps34
      go_wp2_with (go_at_call 73; first | (refine (inS_in _ _ _ _ (by omega) (by omega)).mono ?_; rintro e w' ⟨rfl, rfl⟩) | (refine (inS_out _ _ _ _ (by omega)).mono ?_; rintro e w' ⟨rfl, rfl⟩))
      refine HC.out.mono ?_
      rintro r w1 ⟨rfl, hb1⟩
      have HB1 := Hid.mk' (bel_next HB0.out hb1)
      have HRD1 := Hid.mk' (HRD.out.below hb1)
      have HL1 := Hid.mk' (l5_below HL0.out hb1 (by simp))
      have hlt1 : w.heap.size < w1.heap.size := Nat.lt_of_lt_of_le (by simp) hb1.size
      clear hb1 HC HL0 HB0 HRD
      obtain ⟨l0, l1, l2, l3, l4⟩ := HL1.out
      go_wp2_with fail
      refine (manyS 8 (by omega) _).mono ?_
      rintro r w' ⟨rfl, hw'⟩
      obtain rfl := hw'.symm
      clear hw'
      rw [show ((nmd 8 : Nat) : Int) = 1 from rfl]
      go_wp2
      go_ret
      exact ⟨by rw [HZ.out]; rfl, HB1.out⟩
    have hb0 : Hid (b = 0) := Hid.mk' (by omega)
    clear hb
    by_cases hn : ¬ n = 0
    · have HZ : Hid (R = []) := by rw [← HR.out]; exact Hid.mk' (lnT_no (whl_no (fun q => hn (by have := q.2.2.2.2.2.2.2; revert this; simp))))
      have hnp : (0 : Int) < (n : Int) := by omega
      go_enter Tryz.func34, Tryz.ntmps34
      go_wp2_with (go_at_call 73; first | (refine (inS_in _ _ _ _ (by omega) (by omega)).mono ?_; rintro e w' ⟨rfl, rfl⟩) | (refine (inS_out _ _ _ _ (by omega)).mono ?_; rintro e w' ⟨rfl, rfl⟩))
      refine HC.out.mono ?_
      rintro r w1 ⟨rfl, hb1⟩
      have HB1 := Hid.mk' (bel_next HB0.out hb1)
      have HRD1 := Hid.mk' (HRD.out.below hb1)
      have HL1 := Hid.mk' (l5_below HL0.out hb1 (by simp))
      have hlt1 : w.heap.size < w1.heap.size := Nat.lt_of_lt_of_le (by simp) hb1.size
      clear hb1 HC HL0 HB0 HRD
      obtain ⟨l0, l1, l2, l3, l4⟩ := HL1.out
      go_wp2_with fail
      refine (manyS 8 (by omega) _).mono ?_
      rintro r w' ⟨rfl, hw'⟩
      obtain rfl := hw'.symm
      clear hw'
      rw [show ((nmd 8 : Nat) : Int) = 1 from rfl]
      go_wp2
      go_ret
      exact ⟨by rw [HZ.out]; rfl, HB1.out⟩
    have hn0 : Hid (n = 0) := Hid.mk' (by omega)
    clear hn
    have haq : (a != 0) = false := by simp [ha0.out]
    have hbq : (b != 0) = false := by simp [hb0.out]
    have hnl : ¬ (0 : Int) < (n : Int) := by have := hn0.out; omega
    have HW : Hid (whl 8 to a b n f = true) := Hid.mk' (decide_eq_true ⟨⟨by omega, by omega⟩, ⟨t0, t5⟩, ⟨a0, a5⟩, ⟨b0, b5⟩, HOK.out, .inr ha0.out, .inr hb0.out, .inr hn0.out⟩)
    have HRAW := Hid.mk' (raw8 to a b n f)
    have hcv := fun (u : World) (g : Nat) hc => convS t0 t5 u g hc
    have hwto : IntKind.i64.wrap (65 + to) = 65 + to := by rw [IntKind.wrap_i64]; omega
    have hvto : IntKind.u8.wrap (65 + to) = 65 + to := by rw [IntKind.wrap_u8]; omega
    have hwa : IntKind.i64.wrap (65 + a) = 65 + a := by rw [IntKind.wrap_i64]; omega
    have hva : IntKind.u8.wrap (65 + a) = 65 + a := by rw [IntKind.wrap_u8]; omega
    have hwb : IntKind.i64.wrap (65 + b) = 65 + b := by rw [IntKind.wrap_i64]; omega
    have hvb : IntKind.u8.wrap (65 + b) = 65 + b := by rw [IntKind.wrap_u8]; omega
    go_enter Tryz.func34, Tryz.ntmps34
    go_wp2_with (go_at_call 73; first | (refine (inS_in _ _ _ _ (by omega) (by omega)).mono ?_; rintro e w' ⟨rfl, rfl⟩) | (refine (inS_out _ _ _ _ (by omega)).mono ?_; rintro e w' ⟨rfl, rfl⟩))
    refine HC.out.mono ?_
    rintro r w1 ⟨rfl, hb1⟩
    have HB1 := Hid.mk' (bel_next HB0.out hb1)
    have HRD1 := Hid.mk' (HRD.out.below hb1)
    have HL1 := Hid.mk' (l5_below HL0.out hb1 (by simp))
    have hlt1 : w.heap.size < w1.heap.size := Nat.lt_of_lt_of_le (by simp) hb1.size
    clear hb1 HC HL0 HB0 HRD
    obtain ⟨l0, l1, l2, l3, l4⟩ := HL1.out
    go_wp2_with fail
    refine (manyS 8 (by omega) _).mono ?_
    rintro r w' ⟨rfl, hw'⟩
    obtain rfl := hw'.symm
    clear hw'
    rw [show ((nmd 8 : Nat) : Int) = 1 from rfl]
    have HS1 := HL1
    have HNA := Hid.mk' (fun u => namesS u)
    go_wp2_with fail
    have hl5 : L5 w1 w.heap.size 8 to a b pa n cap := ⟨l0, l1, l2, l3, l4⟩
    have HL5 := Hid.mk' hl5
    have HLT := Hid.mk' hlt1
    clear l0 l1 l2 l3 l4 hl5
    rename_i K0 hK0
    refine wp_region_held_drew (S := fun u => L5 u w.heap.size 8 to a b pa n cap) (by kernel_rfl) (by first | with_reducible exact HL5.out | with_reducible exact l5_drew HL5.out | with_reducible exact l5_below HL5.out ((Below.refl _ _).alloc (Nat.le_refl _) _) HLT.out | with_reducible exact l5_below HL5.out (((Below.refl _ _).alloc (Nat.le_refl _) _).drew) HLT.out | with_reducible exact l5_below HL5.out (((Below.refl _ _).alloc (Nat.le_refl _) _).alloc (by simp) _) HLT.out | with_reducible exact l5_below HL5.out ((((Below.refl _ _).alloc (Nat.le_refl _) _).alloc (by simp) _).drew) HLT.out | with_reducible exact l5_below HL5.out ((((Below.refl _ _).drew).alloc (by simp) _).alloc (by simp) _) HLT.out | with_reducible exact l5_below HL5.out (((Below.refl _ _).drew).alloc (by simp) _) HLT.out) (fun hHeld => ?_)
    refine wpAnyH_take (i := 1) (v := ?_) rfl (by kernel_rfl) (by kernel_rfl) (by kernel_rfl) (fun _ _ _ h => h) (Or.inl ⟨by rfl, ?_⟩) (by assumption) ?_
    rotate_left
    · (intro w9 hSw; (try dsimp only at hSw); go_simp) <;> with_reducible rfl
    try simp only [Act.put, List.getElem_toArray, List.getElem_cons_succ, List.getElem_cons_zero, List.setIfInBounds_toArray, List.set_cons_zero, List.set_cons_succ]
    refine wpAnyH_take (i := 2) (v := ?_) rfl (by kernel_rfl) (by kernel_rfl) (by kernel_rfl) (fun _ _ _ h => h) (Or.inl ⟨by rfl, ?_⟩) (by assumption) ?_
    rotate_left
    · (intro w9 hSw; (try dsimp only at hSw); go_simp) <;> with_reducible rfl
    try simp only [Act.put, List.getElem_toArray, List.getElem_cons_succ, List.getElem_cons_zero, List.setIfInBounds_toArray, List.set_cons_zero, List.set_cons_succ]
    refine wpAnyH_take (i := 6) (v := ?_) rfl (by kernel_rfl) (by kernel_rfl) (by kernel_rfl) (fun _ _ _ h => h) (Or.inl ⟨by rfl, ?_⟩) (by assumption) ?_
    rotate_left
    · (intro w9 hSw; (try dsimp only at hSw); go_simp) <;> with_reducible rfl
    try simp only [Act.put, List.getElem_toArray, List.getElem_cons_succ, List.getElem_cons_zero, List.setIfInBounds_toArray, List.set_cons_zero, List.set_cons_succ]
    refine wpAnyH_take (i := 7) (v := ?_) rfl (by kernel_rfl) (by kernel_rfl) (by kernel_rfl) (fun _ _ _ h => h) (Or.inl ⟨by rfl, ?_⟩) (by assumption) ?_
    rotate_left
    · (intro w9 hSw; (try dsimp only at hSw); go_simp) <;> with_reducible rfl
    try simp only [Act.put, List.getElem_toArray, List.getElem_cons_succ, List.getElem_cons_zero, List.setIfInBounds_toArray, List.set_cons_zero, List.set_cons_succ]
    refine wpAnyH_take (i := 8) (v := ?_) rfl (by kernel_rfl) (by kernel_rfl) (by kernel_rfl) (fun _ _ _ h => h) (Or.inl ⟨by rfl, ?_⟩) (by assumption) ?_
    rotate_left
    · (intro w9 hSw; (try dsimp only at hSw); go_simp) <;> with_reducible rfl
    try simp only [Act.put, List.getElem_toArray, List.getElem_cons_succ, List.getElem_cons_zero, List.setIfInBounds_toArray, List.set_cons_zero, List.set_cons_succ]
    refine wpAnyH_take (i := 9) (v := ?_) rfl (by kernel_rfl) (by kernel_rfl) (by kernel_rfl) (fun _ _ _ h => h) (Or.inl ⟨by rfl, ?_⟩) (by assumption) ?_
    rotate_left
    · (intro w9 hSw; (try dsimp only at hSw); go_simp) <;> with_reducible rfl
    try simp only [Act.put, List.getElem_toArray, List.getElem_cons_succ, List.getElem_cons_zero, List.setIfInBounds_toArray, List.set_cons_zero, List.set_cons_succ]
    refine wpAnyH_ready (rs := [0, 10]) (by kernel_rfl) (by simp) ?_
    refine AllReadyH.cons rfl (fun K hK => ?_) ?_
    rotate_left
    refine AllReadyH.cons rfl (fun K hK => ?_) AllReadyH.nil
    go_simp
    (repeat (rename_i hwq; clear hwq))
    refine hK.out _ _ (by first | with_reducible exact HL5.out | with_reducible exact l5_drew HL5.out | with_reducible exact l5_below HL5.out ((Below.refl _ _).alloc (Nat.le_refl _) _) HLT.out | with_reducible exact l5_below HL5.out (((Below.refl _ _).alloc (Nat.le_refl _) _).drew) HLT.out | with_reducible exact l5_below HL5.out (((Below.refl _ _).alloc (Nat.le_refl _) _).alloc (by simp) _) HLT.out | with_reducible exact l5_below HL5.out ((((Below.refl _ _).alloc (Nat.le_refl _) _).alloc (by simp) _).drew) HLT.out | with_reducible exact l5_below HL5.out ((((Below.refl _ _).drew).alloc (by simp) _).alloc (by simp) _) HLT.out | with_reducible exact l5_below HL5.out (((Below.refl _ _).drew).alloc (by simp) _) HLT.out) (fun hHeld2 => ?_)
    clear hK K hHeld
    have hHeld := hHeld2
    clear hHeld2
    try simp only [Act.put, List.getElem_toArray, List.getElem_cons_succ, List.getElem_cons_zero, List.setIfInBounds_toArray, List.set_cons_zero, List.set_cons_succ]
    refine wpAnyH_ready (rs := [0, 11]) (by kernel_rfl) (by simp) ?_
    refine AllReadyH.cons rfl (fun K hK => ?_) ?_
    rotate_left
    refine AllReadyH.cons rfl (fun K hK => ?_) AllReadyH.nil
    go_simp
    (repeat (rename_i hwq; clear hwq))
    refine hK.out _ _ (by first | with_reducible exact HL5.out | with_reducible exact l5_drew HL5.out | with_reducible exact l5_below HL5.out ((Below.refl _ _).alloc (Nat.le_refl _) _) HLT.out | with_reducible exact l5_below HL5.out (((Below.refl _ _).alloc (Nat.le_refl _) _).drew) HLT.out | with_reducible exact l5_below HL5.out (((Below.refl _ _).alloc (Nat.le_refl _) _).alloc (by simp) _) HLT.out | with_reducible exact l5_below HL5.out ((((Below.refl _ _).alloc (Nat.le_refl _) _).alloc (by simp) _).drew) HLT.out | with_reducible exact l5_below HL5.out ((((Below.refl _ _).drew).alloc (by simp) _).alloc (by simp) _) HLT.out | with_reducible exact l5_below HL5.out (((Below.refl _ _).drew).alloc (by simp) _) HLT.out) (fun hHeld2 => ?_)
    clear hK K hHeld
    have hHeld := hHeld2
    clear hHeld2
    try simp only [Act.put, List.getElem_toArray, List.getElem_cons_succ, List.getElem_cons_zero, List.setIfInBounds_toArray, List.set_cons_zero, List.set_cons_succ]
    refine wpAnyH_ready (rs := [0]) (by kernel_rfl) (by simp) ?_
    refine AllReadyH.cons rfl (fun K hK => ?_) AllReadyH.nil
    go_simp
    (repeat (rename_i hwq; clear hwq))
    go_wp2_with (go_at_call 46; refine (HNA.out _).mono ?_; rintro r w' ⟨rfl, hw'⟩; rw [hw']; clear hw')
    refine hK.out _ _ (by first | with_reducible exact HL5.out | with_reducible exact l5_drew HL5.out | with_reducible exact l5_below HL5.out ((Below.refl _ _).alloc (Nat.le_refl _) _) HLT.out | with_reducible exact l5_below HL5.out (((Below.refl _ _).alloc (Nat.le_refl _) _).drew) HLT.out | with_reducible exact l5_below HL5.out (((Below.refl _ _).alloc (Nat.le_refl _) _).alloc (by simp) _) HLT.out | with_reducible exact l5_below HL5.out ((((Below.refl _ _).alloc (Nat.le_refl _) _).alloc (by simp) _).drew) HLT.out | with_reducible exact l5_below HL5.out ((((Below.refl _ _).drew).alloc (by simp) _).alloc (by simp) _) HLT.out | with_reducible exact l5_below HL5.out (((Below.refl _ _).drew).alloc (by simp) _) HLT.out) (fun hHeld2 => ?_)
    clear hK K hHeld
    have hHeld := hHeld2
    clear hHeld2
    try simp only [Act.put, List.getElem_toArray, List.getElem_cons_succ, List.getElem_cons_zero, List.setIfInBounds_toArray, List.set_cons_zero, List.set_cons_succ]
    refine wpAnyH_take (i := 3) (v := ?_) rfl (by kernel_rfl) (by kernel_rfl) (by kernel_rfl) (fun _ _ _ h => h) (Or.inl ⟨by rfl, ?_⟩) (by assumption) ?_
    rotate_left
    · (intro w9 hSw; (try dsimp only at hSw); go_simp) <;> with_reducible rfl
    try simp only [Act.put, List.getElem_toArray, List.getElem_cons_succ, List.getElem_cons_zero, List.setIfInBounds_toArray, List.set_cons_zero, List.set_cons_succ]
    refine wpAnyH_ready (rs := [4]) (by kernel_rfl) (by simp) ?_
    refine AllReadyH.cons rfl (fun K hK => ?_) AllReadyH.nil
    go_simp
    (repeat (rename_i hwq; clear hwq))
    refine hK.out _ _ (by first | with_reducible exact HL5.out | with_reducible exact l5_drew HL5.out | with_reducible exact l5_below HL5.out ((Below.refl _ _).alloc (Nat.le_refl _) _) HLT.out | with_reducible exact l5_below HL5.out (((Below.refl _ _).alloc (Nat.le_refl _) _).drew) HLT.out | with_reducible exact l5_below HL5.out (((Below.refl _ _).alloc (Nat.le_refl _) _).alloc (by simp) _) HLT.out | with_reducible exact l5_below HL5.out ((((Below.refl _ _).alloc (Nat.le_refl _) _).alloc (by simp) _).drew) HLT.out | with_reducible exact l5_below HL5.out ((((Below.refl _ _).drew).alloc (by simp) _).alloc (by simp) _) HLT.out | with_reducible exact l5_below HL5.out (((Below.refl _ _).drew).alloc (by simp) _) HLT.out) (fun hHeld2 => ?_)
    clear hK K hHeld
    have hHeld := hHeld2
    clear hHeld2
    try simp only [Act.put, List.getElem_toArray, List.getElem_cons_succ, List.getElem_cons_zero, List.setIfInBounds_toArray, List.set_cons_zero, List.set_cons_succ]
    refine wpAnyH_take (i := 5) (v := ?_) rfl (by kernel_rfl) (by kernel_rfl) (by kernel_rfl) (fun _ _ _ h => h) (Or.inl ⟨by rfl, ?_⟩) (by assumption) ?_
    rotate_left
    · (intro w9 hSw; (try dsimp only at hSw); go_simp) <;> with_reducible rfl
    try simp only [Act.put, List.getElem_toArray, List.getElem_cons_succ, List.getElem_cons_zero, List.setIfInBounds_toArray, List.set_cons_zero, List.set_cons_succ]
    refine wpAnyH_take (i := 12) (v := ?_) rfl (by kernel_rfl) (by kernel_rfl) (by kernel_rfl) (fun _ _ _ h => h) (Or.inl ⟨by rfl, ?_⟩) (by assumption) ?_
    rotate_left
    · (intro w9 hSw; (try dsimp only at hSw); go_simp) <;> with_reducible rfl
    try simp only [Act.put, List.getElem_toArray, List.getElem_cons_succ, List.getElem_cons_zero, List.setIfInBounds_toArray, List.set_cons_zero, List.set_cons_succ]
    refine wpAnyH_take (i := 13) (v := ?_) rfl (by kernel_rfl) (by kernel_rfl) (by kernel_rfl) (fun _ _ _ h => h) (Or.inl ⟨by rfl, ?_⟩) (by assumption) ?_
    rotate_left
    · (intro w9 hSw; (try dsimp only at hSw); go_simp) <;> with_reducible rfl
    try simp only [Act.put, List.getElem_toArray, List.getElem_cons_succ, List.getElem_cons_zero, List.setIfInBounds_toArray, List.set_cons_zero, List.set_cons_succ]
    refine wpAnyH_done (by kernel_rfl) ?_ _
    rotate_left
    go_simp
    (repeat (rename_i hwq; clear hwq))
    go_wp2_with (go_at_call 46; refine (HNA.out _).mono ?_; rintro r w' ⟨rfl, hw'⟩; rw [hw']; clear hw')
    refine hK.out _ _ (by first | with_reducible exact HL5.out | with_reducible exact l5_drew HL5.out | with_reducible exact l5_below HL5.out ((Below.refl _ _).alloc (Nat.le_refl _) _) HLT.out | with_reducible exact l5_below HL5.out (((Below.refl _ _).alloc (Nat.le_refl _) _).drew) HLT.out | with_reducible exact l5_below HL5.out (((Below.refl _ _).alloc (Nat.le_refl _) _).alloc (by simp) _) HLT.out | with_reducible exact l5_below HL5.out ((((Below.refl _ _).alloc (Nat.le_refl _) _).alloc (by simp) _).drew) HLT.out | with_reducible exact l5_below HL5.out ((((Below.refl _ _).drew).alloc (by simp) _).alloc (by simp) _) HLT.out | with_reducible exact l5_below HL5.out (((Below.refl _ _).drew).alloc (by simp) _) HLT.out) (fun hHeld2 => ?_)
    clear hK K hHeld
    have hHeld := hHeld2
    clear hHeld2
    try simp only [Act.put, List.getElem_toArray, List.getElem_cons_succ, List.getElem_cons_zero, List.setIfInBounds_toArray, List.set_cons_zero, List.set_cons_succ]
    refine wpAnyH_take (i := 3) (v := ?_) rfl (by kernel_rfl) (by kernel_rfl) (by kernel_rfl) (fun _ _ _ h => h) (Or.inl ⟨by rfl, ?_⟩) (by assumption) ?_
    rotate_left
    · (intro w9 hSw; (try dsimp only at hSw); go_simp) <;> with_reducible rfl
    try simp only [Act.put, List.getElem_toArray, List.getElem_cons_succ, List.getElem_cons_zero, List.setIfInBounds_toArray, List.set_cons_zero, List.set_cons_succ]
    refine wpAnyH_ready (rs := [4, 10]) (by kernel_rfl) (by simp) ?_
    refine AllReadyH.cons rfl (fun K hK => ?_) ?_
    rotate_left
    refine AllReadyH.cons rfl (fun K hK => ?_) AllReadyH.nil
    go_simp
    (repeat (rename_i hwq; clear hwq))
    refine hK.out _ _ (by first | with_reducible exact HL5.out | with_reducible exact l5_drew HL5.out | with_reducible exact l5_below HL5.out ((Below.refl _ _).alloc (Nat.le_refl _) _) HLT.out | with_reducible exact l5_below HL5.out (((Below.refl _ _).alloc (Nat.le_refl _) _).drew) HLT.out | with_reducible exact l5_below HL5.out (((Below.refl _ _).alloc (Nat.le_refl _) _).alloc (by simp) _) HLT.out | with_reducible exact l5_below HL5.out ((((Below.refl _ _).alloc (Nat.le_refl _) _).alloc (by simp) _).drew) HLT.out | with_reducible exact l5_below HL5.out ((((Below.refl _ _).drew).alloc (by simp) _).alloc (by simp) _) HLT.out | with_reducible exact l5_below HL5.out (((Below.refl _ _).drew).alloc (by simp) _) HLT.out) (fun hHeld2 => ?_)
    clear hK K hHeld
    have hHeld := hHeld2
    clear hHeld2
    try simp only [Act.put, List.getElem_toArray, List.getElem_cons_succ, List.getElem_cons_zero, List.setIfInBounds_toArray, List.set_cons_zero, List.set_cons_succ]
    refine wpAnyH_ready (rs := [4, 11]) (by kernel_rfl) (by simp) ?_
    refine AllReadyH.cons rfl (fun K hK => ?_) ?_
    rotate_left
    refine AllReadyH.cons rfl (fun K hK => ?_) AllReadyH.nil
    go_simp
    (repeat (rename_i hwq; clear hwq))
    refine hK.out _ _ (by first | with_reducible exact HL5.out | with_reducible exact l5_drew HL5.out | with_reducible exact l5_below HL5.out ((Below.refl _ _).alloc (Nat.le_refl _) _) HLT.out | with_reducible exact l5_below HL5.out (((Below.refl _ _).alloc (Nat.le_refl _) _).drew) HLT.out | with_reducible exact l5_below HL5.out (((Below.refl _ _).alloc (Nat.le_refl _) _).alloc (by simp) _) HLT.out | with_reducible exact l5_below HL5.out ((((Below.refl _ _).alloc (Nat.le_refl _) _).alloc (by simp) _).drew) HLT.out | with_reducible exact l5_below HL5.out ((((Below.refl _ _).drew).alloc (by simp) _).alloc (by simp) _) HLT.out | with_reducible exact l5_below HL5.out (((Below.refl _ _).drew).alloc (by simp) _) HLT.out) (fun hHeld2 => ?_)
    clear hK K hHeld
    have hHeld := hHeld2
    clear hHeld2
    try simp only [Act.put, List.getElem_toArray, List.getElem_cons_succ, List.getElem_cons_zero, List.setIfInBounds_toArray, List.set_cons_zero, List.set_cons_succ]
    refine wpAnyH_ready (rs := [4]) (by kernel_rfl) (by simp) ?_
    refine AllReadyH.cons rfl (fun K hK => ?_) AllReadyH.nil
    go_simp
    (repeat (rename_i hwq; clear hwq))
    refine hK.out _ _ (by first | with_reducible exact HL5.out | with_reducible exact l5_drew HL5.out | with_reducible exact l5_below HL5.out ((Below.refl _ _).alloc (Nat.le_refl _) _) HLT.out | with_reducible exact l5_below HL5.out (((Below.refl _ _).alloc (Nat.le_refl _) _).drew) HLT.out | with_reducible exact l5_below HL5.out (((Below.refl _ _).alloc (Nat.le_refl _) _).alloc (by simp) _) HLT.out | with_reducible exact l5_below HL5.out ((((Below.refl _ _).alloc (Nat.le_refl _) _).alloc (by simp) _).drew) HLT.out | with_reducible exact l5_below HL5.out ((((Below.refl _ _).drew).alloc (by simp) _).alloc (by simp) _) HLT.out | with_reducible exact l5_below HL5.out (((Below.refl _ _).drew).alloc (by simp) _) HLT.out) (fun hHeld2 => ?_)
    clear hK K hHeld
    have hHeld := hHeld2
    clear hHeld2
    try simp only [Act.put, List.getElem_toArray, List.getElem_cons_succ, List.getElem_cons_zero, List.setIfInBounds_toArray, List.set_cons_zero, List.set_cons_succ]
    refine wpAnyH_take (i := 5) (v := ?_) rfl (by kernel_rfl) (by kernel_rfl) (by kernel_rfl) (fun _ _ _ h => h) (Or.inl ⟨by rfl, ?_⟩) (by assumption) ?_
    rotate_left
    · (intro w9 hSw; (try dsimp only at hSw); go_simp) <;> with_reducible rfl
    try simp only [Act.put, List.getElem_toArray, List.getElem_cons_succ, List.getElem_cons_zero, List.setIfInBounds_toArray, List.set_cons_zero, List.set_cons_succ]
    refine wpAnyH_take (i := 12) (v := ?_) rfl (by kernel_rfl) (by kernel_rfl) (by kernel_rfl) (fun _ _ _ h => h) (Or.inl ⟨by rfl, ?_⟩) (by assumption) ?_
    rotate_left
    · (intro w9 hSw; (try dsimp only at hSw); go_simp) <;> with_reducible rfl
    try simp only [Act.put, List.getElem_toArray, List.getElem_cons_succ, List.getElem_cons_zero, List.setIfInBounds_toArray, List.set_cons_zero, List.set_cons_succ]
    refine wpAnyH_take (i := 13) (v := ?_) rfl (by kernel_rfl) (by kernel_rfl) (by kernel_rfl) (fun _ _ _ h => h) (Or.inl ⟨by rfl, ?_⟩) (by assumption) ?_
    rotate_left
    · (intro w9 hSw; (try dsimp only at hSw); go_simp) <;> with_reducible rfl
    try simp only [Act.put, List.getElem_toArray, List.getElem_cons_succ, List.getElem_cons_zero, List.setIfInBounds_toArray, List.set_cons_zero, List.set_cons_succ]
    refine wpAnyH_done (by kernel_rfl) ?_ _
    rotate_left
    go_simp
    (repeat (rename_i hwq; clear hwq))
    go_wp2_with (go_at_call 46; refine (HNA.out _).mono ?_; rintro r w' ⟨rfl, hw'⟩; rw [hw']; clear hw')
    refine hK.out _ _ (by first | with_reducible exact HL5.out | with_reducible exact l5_drew HL5.out | with_reducible exact l5_below HL5.out ((Below.refl _ _).alloc (Nat.le_refl _) _) HLT.out | with_reducible exact l5_below HL5.out (((Below.refl _ _).alloc (Nat.le_refl _) _).drew) HLT.out | with_reducible exact l5_below HL5.out (((Below.refl _ _).alloc (Nat.le_refl _) _).alloc (by simp) _) HLT.out | with_reducible exact l5_below HL5.out ((((Below.refl _ _).alloc (Nat.le_refl _) _).alloc (by simp) _).drew) HLT.out | with_reducible exact l5_below HL5.out ((((Below.refl _ _).drew).alloc (by simp) _).alloc (by simp) _) HLT.out | with_reducible exact l5_below HL5.out (((Below.refl _ _).drew).alloc (by simp) _) HLT.out) (fun hHeld2 => ?_)
    clear hK K hHeld
    have hHeld := hHeld2
    clear hHeld2
    try simp only [Act.put, List.getElem_toArray, List.getElem_cons_succ, List.getElem_cons_zero, List.setIfInBounds_toArray, List.set_cons_zero, List.set_cons_succ]
    refine wpAnyH_take (i := 3) (v := ?_) rfl (by kernel_rfl) (by kernel_rfl) (by kernel_rfl) (fun _ _ _ h => h) (Or.inl ⟨by rfl, ?_⟩) (by assumption) ?_
    rotate_left
    · (intro w9 hSw; (try dsimp only at hSw); go_simp) <;> with_reducible rfl
    try simp only [Act.put, List.getElem_toArray, List.getElem_cons_succ, List.getElem_cons_zero, List.setIfInBounds_toArray, List.set_cons_zero, List.set_cons_succ]
    refine wpAnyH_ready (rs := [4, 11]) (by kernel_rfl) (by simp) ?_
    refine AllReadyH.cons rfl (fun K hK => ?_) ?_
    rotate_left
    refine AllReadyH.cons rfl (fun K hK => ?_) AllReadyH.nil
    go_simp
    (repeat (rename_i hwq; clear hwq))
    refine hK.out _ _ (by first | with_reducible exact HL5.out | with_reducible exact l5_drew HL5.out | with_reducible exact l5_below HL5.out ((Below.refl _ _).alloc (Nat.le_refl _) _) HLT.out | with_reducible exact l5_below HL5.out (((Below.refl _ _).alloc (Nat.le_refl _) _).drew) HLT.out | with_reducible exact l5_below HL5.out (((Below.refl _ _).alloc (Nat.le_refl _) _).alloc (by simp) _) HLT.out | with_reducible exact l5_below HL5.out ((((Below.refl _ _).alloc (Nat.le_refl _) _).alloc (by simp) _).drew) HLT.out | with_reducible exact l5_below HL5.out ((((Below.refl _ _).drew).alloc (by simp) _).alloc (by simp) _) HLT.out | with_reducible exact l5_below HL5.out (((Below.refl _ _).drew).alloc (by simp) _) HLT.out) (fun hHeld2 => ?_)
    clear hK K hHeld
    have hHeld := hHeld2
    clear hHeld2
    try simp only [Act.put, List.getElem_toArray, List.getElem_cons_succ, List.getElem_cons_zero, List.setIfInBounds_toArray, List.set_cons_zero, List.set_cons_succ]
    refine wpAnyH_ready (rs := [4]) (by kernel_rfl) (by simp) ?_
    refine AllReadyH.cons rfl (fun K hK => ?_) AllReadyH.nil
    go_simp
    (repeat (rename_i hwq; clear hwq))
    refine hK.out _ _ (by first | with_reducible exact HL5.out | with_reducible exact l5_drew HL5.out | with_reducible exact l5_below HL5.out ((Below.refl _ _).alloc (Nat.le_refl _) _) HLT.out | with_reducible exact l5_below HL5.out (((Below.refl _ _).alloc (Nat.le_refl _) _).drew) HLT.out | with_reducible exact l5_below HL5.out (((Below.refl _ _).alloc (Nat.le_refl _) _).alloc (by simp) _) HLT.out | with_reducible exact l5_below HL5.out ((((Below.refl _ _).alloc (Nat.le_refl _) _).alloc (by simp) _).drew) HLT.out | with_reducible exact l5_below HL5.out ((((Below.refl _ _).drew).alloc (by simp) _).alloc (by simp) _) HLT.out | with_reducible exact l5_below HL5.out (((Below.refl _ _).drew).alloc (by simp) _) HLT.out) (fun hHeld2 => ?_)
    clear hK K hHeld
    have hHeld := hHeld2
    clear hHeld2
    try simp only [Act.put, List.getElem_toArray, List.getElem_cons_succ, List.getElem_cons_zero, List.setIfInBounds_toArray, List.set_cons_zero, List.set_cons_succ]
    refine wpAnyH_take (i := 5) (v := ?_) rfl (by kernel_rfl) (by kernel_rfl) (by kernel_rfl) (fun _ _ _ h => h) (Or.inl ⟨by rfl, ?_⟩) (by assumption) ?_
    rotate_left
    · (intro w9 hSw; (try dsimp only at hSw); go_simp) <;> with_reducible rfl
    try simp only [Act.put, List.getElem_toArray, List.getElem_cons_succ, List.getElem_cons_zero, List.setIfInBounds_toArray, List.set_cons_zero, List.set_cons_succ]
    refine wpAnyH_take (i := 12) (v := ?_) rfl (by kernel_rfl) (by kernel_rfl) (by kernel_rfl) (fun _ _ _ h => h) (Or.inl ⟨by rfl, ?_⟩) (by assumption) ?_
    rotate_left
    · (intro w9 hSw; (try dsimp only at hSw); go_simp) <;> with_reducible rfl
    try simp only [Act.put, List.getElem_toArray, List.getElem_cons_succ, List.getElem_cons_zero, List.setIfInBounds_toArray, List.set_cons_zero, List.set_cons_succ]
    refine wpAnyH_take (i := 13) (v := ?_) rfl (by kernel_rfl) (by kernel_rfl) (by kernel_rfl) (fun _ _ _ h => h) (Or.inl ⟨by rfl, ?_⟩) (by assumption) ?_
    rotate_left
    · (intro w9 hSw; (try dsimp only at hSw); go_simp) <;> with_reducible rfl
    try simp only [Act.put, List.getElem_toArray, List.getElem_cons_succ, List.getElem_cons_zero, List.setIfInBounds_toArray, List.set_cons_zero, List.set_cons_succ]
    refine wpAnyH_done (by kernel_rfl) ?_ _
    rotate_left
    rotate_left
    go_simp
    (repeat (rename_i hwq; clear hwq))
    refine hK.out _ _ (by first | with_reducible exact HL5.out | with_reducible exact l5_drew HL5.out | with_reducible exact l5_below HL5.out ((Below.refl _ _).alloc (Nat.le_refl _) _) HLT.out | with_reducible exact l5_below HL5.out (((Below.refl _ _).alloc (Nat.le_refl _) _).drew) HLT.out | with_reducible exact l5_below HL5.out (((Below.refl _ _).alloc (Nat.le_refl _) _).alloc (by simp) _) HLT.out | with_reducible exact l5_below HL5.out ((((Below.refl _ _).alloc (Nat.le_refl _) _).alloc (by simp) _).drew) HLT.out | with_reducible exact l5_below HL5.out ((((Below.refl _ _).drew).alloc (by simp) _).alloc (by simp) _) HLT.out | with_reducible exact l5_below HL5.out (((Below.refl _ _).drew).alloc (by simp) _) HLT.out) (fun hHeld2 => ?_)
    clear hK K hHeld
    have hHeld := hHeld2
    clear hHeld2
    try simp only [Act.put, List.getElem_toArray, List.getElem_cons_succ, List.getElem_cons_zero, List.setIfInBounds_toArray, List.set_cons_zero, List.set_cons_succ]
    refine wpAnyH_take (i := 5) (v := ?_) rfl (by kernel_rfl) (by kernel_rfl) (by kernel_rfl) (fun _ _ _ h => h) (Or.inl ⟨by rfl, ?_⟩) (by assumption) ?_
    rotate_left
    · (intro w9 hSw; (try dsimp only at hSw); go_simp) <;> with_reducible rfl
    try simp only [Act.put, List.getElem_toArray, List.getElem_cons_succ, List.getElem_cons_zero, List.setIfInBounds_toArray, List.set_cons_zero, List.set_cons_succ]
    refine wpAnyH_ready (rs := [10]) (by kernel_rfl) (by simp) ?_
    refine AllReadyH.cons rfl (fun K hK => ?_) AllReadyH.nil
    go_simp
    (repeat (rename_i hwq; clear hwq))
    refine hK.out _ _ (by first | with_reducible exact HL5.out | with_reducible exact l5_drew HL5.out | with_reducible exact l5_below HL5.out ((Below.refl _ _).alloc (Nat.le_refl _) _) HLT.out | with_reducible exact l5_below HL5.out (((Below.refl _ _).alloc (Nat.le_refl _) _).drew) HLT.out | with_reducible exact l5_below HL5.out (((Below.refl _ _).alloc (Nat.le_refl _) _).alloc (by simp) _) HLT.out | with_reducible exact l5_below HL5.out ((((Below.refl _ _).alloc (Nat.le_refl _) _).alloc (by simp) _).drew) HLT.out | with_reducible exact l5_below HL5.out ((((Below.refl _ _).drew).alloc (by simp) _).alloc (by simp) _) HLT.out | with_reducible exact l5_below HL5.out (((Below.refl _ _).drew).alloc (by simp) _) HLT.out) (fun hHeld2 => ?_)
    clear hK K hHeld
    have hHeld := hHeld2
    clear hHeld2
    try simp only [Act.put, List.getElem_toArray, List.getElem_cons_succ, List.getElem_cons_zero, List.setIfInBounds_toArray, List.set_cons_zero, List.set_cons_succ]
    refine wpAnyH_ready (rs := [11]) (by kernel_rfl) (by simp) ?_
    refine AllReadyH.cons rfl (fun K hK => ?_) AllReadyH.nil
    go_simp
    (repeat (rename_i hwq; clear hwq))
    refine hK.out _ _ (by first | with_reducible exact HL5.out | with_reducible exact l5_drew HL5.out | with_reducible exact l5_below HL5.out ((Below.refl _ _).alloc (Nat.le_refl _) _) HLT.out | with_reducible exact l5_below HL5.out (((Below.refl _ _).alloc (Nat.le_refl _) _).drew) HLT.out | with_reducible exact l5_below HL5.out (((Below.refl _ _).alloc (Nat.le_refl _) _).alloc (by simp) _) HLT.out | with_reducible exact l5_below HL5.out ((((Below.refl _ _).alloc (Nat.le_refl _) _).alloc (by simp) _).drew) HLT.out | with_reducible exact l5_below HL5.out ((((Below.refl _ _).drew).alloc (by simp) _).alloc (by simp) _) HLT.out | with_reducible exact l5_below HL5.out (((Below.refl _ _).drew).alloc (by simp) _) HLT.out) (fun hHeld2 => ?_)
    clear hK K hHeld
    have hHeld := hHeld2
    clear hHeld2
    try simp only [Act.put, List.getElem_toArray, List.getElem_cons_succ, List.getElem_cons_zero, List.setIfInBounds_toArray, List.set_cons_zero, List.set_cons_succ]
    refine wpAnyH_take (i := 12) (v := ?_) rfl (by kernel_rfl) (by kernel_rfl) (by kernel_rfl) (fun _ _ _ h => h) (Or.inl ⟨by rfl, ?_⟩) (by assumption) ?_
    rotate_left
    · (intro w9 hSw; (try dsimp only at hSw); go_simp) <;> with_reducible rfl
    try simp only [Act.put, List.getElem_toArray, List.getElem_cons_succ, List.getElem_cons_zero, List.setIfInBounds_toArray, List.set_cons_zero, List.set_cons_succ]
    refine wpAnyH_take (i := 13) (v := ?_) rfl (by kernel_rfl) (by kernel_rfl) (by kernel_rfl) (fun _ _ _ h => h) (Or.inl ⟨by rfl, ?_⟩) (by assumption) ?_
    rotate_left
    · (intro w9 hSw; (try dsimp only at hSw); go_simp) <;> with_reducible rfl
    try simp only [Act.put, List.getElem_toArray, List.getElem_cons_succ, List.getElem_cons_zero, List.setIfInBounds_toArray, List.set_cons_zero, List.set_cons_succ]
    refine wpAnyH_done (by kernel_rfl) ?_ _
    rotate_left
    go_simp
    (repeat (rename_i hwq; clear hwq))
    refine hK.out _ _ (by first | with_reducible exact HL5.out | with_reducible exact l5_drew HL5.out | with_reducible exact l5_below HL5.out ((Below.refl _ _).alloc (Nat.le_refl _) _) HLT.out | with_reducible exact l5_below HL5.out (((Below.refl _ _).alloc (Nat.le_refl _) _).drew) HLT.out | with_reducible exact l5_below HL5.out (((Below.refl _ _).alloc (Nat.le_refl _) _).alloc (by simp) _) HLT.out | with_reducible exact l5_below HL5.out ((((Below.refl _ _).alloc (Nat.le_refl _) _).alloc (by simp) _).drew) HLT.out | with_reducible exact l5_below HL5.out ((((Below.refl _ _).drew).alloc (by simp) _).alloc (by simp) _) HLT.out | with_reducible exact l5_below HL5.out (((Below.refl _ _).drew).alloc (by simp) _) HLT.out) (fun hHeld2 => ?_)
    clear hK K hHeld
    have hHeld := hHeld2
    clear hHeld2
    try simp only [Act.put, List.getElem_toArray, List.getElem_cons_succ, List.getElem_cons_zero, List.setIfInBounds_toArray, List.set_cons_zero, List.set_cons_succ]
    refine wpAnyH_take (i := 5) (v := ?_) rfl (by kernel_rfl) (by kernel_rfl) (by kernel_rfl) (fun _ _ _ h => h) (Or.inl ⟨by rfl, ?_⟩) (by assumption) ?_
    rotate_left
    · (intro w9 hSw; (try dsimp only at hSw); go_simp) <;> with_reducible rfl
    try simp only [Act.put, List.getElem_toArray, List.getElem_cons_succ, List.getElem_cons_zero, List.setIfInBounds_toArray, List.set_cons_zero, List.set_cons_succ]
    refine wpAnyH_ready (rs := [11]) (by kernel_rfl) (by simp) ?_
    refine AllReadyH.cons rfl (fun K hK => ?_) AllReadyH.nil
    go_simp
    (repeat (rename_i hwq; clear hwq))
    refine hK.out _ _ (by first | with_reducible exact HL5.out | with_reducible exact l5_drew HL5.out | with_reducible exact l5_below HL5.out ((Below.refl _ _).alloc (Nat.le_refl _) _) HLT.out | with_reducible exact l5_below HL5.out (((Below.refl _ _).alloc (Nat.le_refl _) _).drew) HLT.out | with_reducible exact l5_below HL5.out (((Below.refl _ _).alloc (Nat.le_refl _) _).alloc (by simp) _) HLT.out | with_reducible exact l5_below HL5.out ((((Below.refl _ _).alloc (Nat.le_refl _) _).alloc (by simp) _).drew) HLT.out | with_reducible exact l5_below HL5.out ((((Below.refl _ _).drew).alloc (by simp) _).alloc (by simp) _) HLT.out | with_reducible exact l5_below HL5.out (((Below.refl _ _).drew).alloc (by simp) _) HLT.out) (fun hHeld2 => ?_)
    clear hK K hHeld
    have hHeld := hHeld2
    clear hHeld2
    try simp only [Act.put, List.getElem_toArray, List.getElem_cons_succ, List.getElem_cons_zero, List.setIfInBounds_toArray, List.set_cons_zero, List.set_cons_succ]
    refine wpAnyH_take (i := 12) (v := ?_) rfl (by kernel_rfl) (by kernel_rfl) (by kernel_rfl) (fun _ _ _ h => h) (Or.inl ⟨by rfl, ?_⟩) (by assumption) ?_
    rotate_left
    · (intro w9 hSw; (try dsimp only at hSw); go_simp) <;> with_reducible rfl
    try simp only [Act.put, List.getElem_toArray, List.getElem_cons_succ, List.getElem_cons_zero, List.setIfInBounds_toArray, List.set_cons_zero, List.set_cons_succ]
    refine wpAnyH_take (i := 13) (v := ?_) rfl (by kernel_rfl) (by kernel_rfl) (by kernel_rfl) (fun _ _ _ h => h) (Or.inl ⟨by rfl, ?_⟩) (by assumption) ?_
    rotate_left
    · (intro w9 hSw; (try dsimp only at hSw); go_simp) <;> with_reducible rfl
    try simp only [Act.put, List.getElem_toArray, List.getElem_cons_succ, List.getElem_cons_zero, List.setIfInBounds_toArray, List.set_cons_zero, List.set_cons_succ]
    refine wpAnyH_done (by kernel_rfl) ?_ _
    rotate_left
    rotate_left
    go_simp
    (repeat (rename_i hwq; clear hwq))
    refine hK.out _ _ (by first | with_reducible exact HL5.out | with_reducible exact l5_drew HL5.out | with_reducible exact l5_below HL5.out ((Below.refl _ _).alloc (Nat.le_refl _) _) HLT.out | with_reducible exact l5_below HL5.out (((Below.refl _ _).alloc (Nat.le_refl _) _).drew) HLT.out | with_reducible exact l5_below HL5.out (((Below.refl _ _).alloc (Nat.le_refl _) _).alloc (by simp) _) HLT.out | with_reducible exact l5_below HL5.out ((((Below.refl _ _).alloc (Nat.le_refl _) _).alloc (by simp) _).drew) HLT.out | with_reducible exact l5_below HL5.out ((((Below.refl _ _).drew).alloc (by simp) _).alloc (by simp) _) HLT.out | with_reducible exact l5_below HL5.out (((Below.refl _ _).drew).alloc (by simp) _) HLT.out) (fun hHeld2 => ?_)
    clear hK K hHeld
    have hHeld := hHeld2
    clear hHeld2
    try simp only [Act.put, List.getElem_toArray, List.getElem_cons_succ, List.getElem_cons_zero, List.setIfInBounds_toArray, List.set_cons_zero, List.set_cons_succ]
    refine wpAnyH_take (i := 5) (v := ?_) rfl (by kernel_rfl) (by kernel_rfl) (by kernel_rfl) (fun _ _ _ h => h) (Or.inl ⟨by rfl, ?_⟩) (by assumption) ?_
    rotate_left
    · (intro w9 hSw; (try dsimp only at hSw); go_simp) <;> with_reducible rfl
    try simp only [Act.put, List.getElem_toArray, List.getElem_cons_succ, List.getElem_cons_zero, List.setIfInBounds_toArray, List.set_cons_zero, List.set_cons_succ]
    refine wpAnyH_ready (rs := [11]) (by kernel_rfl) (by simp) ?_
    refine AllReadyH.cons rfl (fun K hK => ?_) AllReadyH.nil
    go_simp
    (repeat (rename_i hwq; clear hwq))
    refine hK.out _ _ (by first | with_reducible exact HL5.out | with_reducible exact l5_drew HL5.out | with_reducible exact l5_below HL5.out ((Below.refl _ _).alloc (Nat.le_refl _) _) HLT.out | with_reducible exact l5_below HL5.out (((Below.refl _ _).alloc (Nat.le_refl _) _).drew) HLT.out | with_reducible exact l5_below HL5.out (((Below.refl _ _).alloc (Nat.le_refl _) _).alloc (by simp) _) HLT.out | with_reducible exact l5_below HL5.out ((((Below.refl _ _).alloc (Nat.le_refl _) _).alloc (by simp) _).drew) HLT.out | with_reducible exact l5_below HL5.out ((((Below.refl _ _).drew).alloc (by simp) _).alloc (by simp) _) HLT.out | with_reducible exact l5_below HL5.out (((Below.refl _ _).drew).alloc (by simp) _) HLT.out) (fun hHeld2 => ?_)
    clear hK K hHeld
    have hHeld := hHeld2
    clear hHeld2
    try simp only [Act.put, List.getElem_toArray, List.getElem_cons_succ, List.getElem_cons_zero, List.setIfInBounds_toArray, List.set_cons_zero, List.set_cons_succ]
    refine wpAnyH_take (i := 12) (v := ?_) rfl (by kernel_rfl) (by kernel_rfl) (by kernel_rfl) (fun _ _ _ h => h) (Or.inl ⟨by rfl, ?_⟩) (by assumption) ?_
    rotate_left
    · (intro w9 hSw; (try dsimp only at hSw); go_simp) <;> with_reducible rfl
    try simp only [Act.put, List.getElem_toArray, List.getElem_cons_succ, List.getElem_cons_zero, List.setIfInBounds_toArray, List.set_cons_zero, List.set_cons_succ]
    refine wpAnyH_take (i := 13) (v := ?_) rfl (by kernel_rfl) (by kernel_rfl) (by kernel_rfl) (fun _ _ _ h => h) (Or.inl ⟨by rfl, ?_⟩) (by assumption) ?_
    rotate_left
    · (intro w9 hSw; (try dsimp only at hSw); go_simp) <;> with_reducible rfl
    try simp only [Act.put, List.getElem_toArray, List.getElem_cons_succ, List.getElem_cons_zero, List.setIfInBounds_toArray, List.set_cons_zero, List.set_cons_succ]
    refine wpAnyH_done (by kernel_rfl) ?_ _
    rotate_left
    all_goals (
      have HF : Hid (R = rawL 8 to a b n f) := by rw [← HR.out]; exact Hid.mk' (lnT_is HW.out (by rw [HRAW.out]; simp))
      rw [HRAW.out] at HF
      clear HR HW HRAW HNA
      go_wp2
      go_ret
      refine ⟨congrArg (fun x => Ending.returned (Value.string x)) ?_, ?_⟩
      · rw [HF.out]; apply ByteArray.ext; simp only [ByteArray.data_append, List.append_toArray, List.cons_append, List.nil_append]
      repeat (first | with_reducible exact HB1.out | with_reducible refine bel_d ?_ | with_reducible refine bel_a ?_))
--@END
end Go.Proofs.YtoglomfejgpoeaaGreatDoor
