/-
  What the laws over monomials lean on: the thing that holds of the program, and monomials in a world that grew.
  Texts of monomials and numbers, as lists of bytes.
  Texts of operators, as lists of bytes; the library's table of powers of ten.
-/
import Derived.Test.YtnfgiplgkobnlaaGreatDoorGah
import Derived.Test.YtnfgiplgkobnlaaGreatDoorGad
import Derived.Test.YtnfgiplgkobnlaaGreatDoorGac
import Derived.Test.YtnfgiplgkobnlaaGreatDoorGab
import Derived.Lib.ItoaNum
import Derived.Lib.UnsafeStr
import Derived.Lib.Join
import Derived.Lib.LaidTab
import Derived.Lib.AppendIntMem
import Derived.Shelf.Lay
import Derived.Shelf.Strconv.Itoa3
import Derived.Shelf.Strings.OnBuilder
import Derived.Ground.NamesProg
namespace Go.Proofs.YtnfgiplgkobnlaaGreatDoor
open Go.RowKit
set_option linter.unusedVariables false

theorem M4.ext {w : World} {b : Nat} {x y d e : Int} (h : M4 w b x y d e) : (∀ u : Ext w, u.1.cell? ⟨b, 0, none⟩ = some (.int .i64 x)) ∧ (∀ u : Ext w, u.1.cell? ⟨b, 1, none⟩ = some (.int .i64 y)) ∧ (∀ u : Ext w, u.1.cell? ⟨b, 2, none⟩ = some (.int .i64 d)) ∧ (∀ u : Ext w, u.1.cell? ⟨b, 3, none⟩ = some (.int .i64 e)) :=
  ⟨fun u => (u.cell h.lt).trans h.1, fun u => (u.cell h.lt).trans h.2.1, fun u => (u.cell h.lt).trans h.2.2.1, fun u => (u.cell h.lt).trans h.2.2.2⟩
theorem heOneT (w : World) : Calls Tryz.prog 13 #[] w fun e w' => e = .returned (.slice (some ⟨w.heap.size, 0, none⟩) 1 1) ∧ w' = w.alloc (.cells #[.int .i64 1, .int .i64 0, .int .i64 0, .int .i64 0, .int .i64 0] 45) := by
  go_enter Tryz.func13, Tryz.ntmps13
  go_wp2
  go_ret
  exact ⟨rfl, rfl⟩
theorem monMulI_of {x y d e x' y' d' e' : Int} {m : M} {b : Bool} (h : M.mul ⟨x, y, d, e⟩ ⟨x', y', d', e'⟩ = (m, b)) (w : World) :
    Calls Tryz.prog 59 #[.agg #[.int .i64 x, .int .i64 y, .int .i64 d, .int .i64 e], .agg #[.int .i64 x', .int .i64 y', .int .i64 d', .int .i64 e']] w fun r w' => r = .returned (.tuple #[.agg #[.int .i64 m.x, .int .i64 m.y, .int .i64 m.d, .int .i64 m.e], .bool b]) ∧ Below w.heap.size w w' := by
  have := monMulI x y d e x' y' d' e' w
  rw [h] at this; exact this
theorem monMulS_of {x y d e x' y' d' e' : Int} {m : M} {b : Bool} (h : M.mul ⟨x, y, d, e⟩ ⟨x', y', d', e'⟩ = (m, b)) (w : World) :
    Calls Tryz.prog 90 #[.agg #[.int .i64 x, .int .i64 y, .int .i64 d, .int .i64 e], .agg #[.int .i64 x', .int .i64 y', .int .i64 d', .int .i64 e']] w fun r w' => r = .returned (.tuple #[.agg #[.int .i64 m.x, .int .i64 m.y, .int .i64 m.d, .int .i64 m.e], .bool b]) ∧ Below w.heap.size w w' := by
  have := monMulS x y d e x' y' d' e' w
  rw [h] at this; exact this
theorem monDegS_of {x y d e n : Int} (h : M.deg ⟨x, y, d, e⟩ = n) (w : World) :
    Calls Tryz.prog 66 #[.agg #[.int .i64 x, .int .i64 y, .int .i64 d, .int .i64 e]] w fun r w' => r = .returned (.int .i64 n) ∧ Below w.heap.size w w' := by
  have := monDegS x y d e w
  rw [h] at this; exact this
theorem M.mul_cases (a b : M) : (M.mul a b = (⟨0, 0, 0, 0⟩, false) ∧ M.mul b a = (⟨0, 0, 0, 0⟩, false)) ∨ (a.ok = true ∧ b.ok = true ∧ (M.sum a b).ok = true ∧ M.mul a b = (⟨a.x + b.x, a.y + b.y, a.d + b.d, a.e + b.e⟩, true) ∧ M.mul b a = (⟨a.x + b.x, a.y + b.y, a.d + b.d, a.e + b.e⟩, true)) := by
  have hc : M.sum b a = M.sum a b := by simp [M.sum, Int.add_comm]
  by_cases h : a.ok = true ∧ b.ok = true ∧ (M.sum a b).ok = true
  · refine .inr ⟨h.1, h.2.1, h.2.2, ?_, ?_⟩
    · rw [M.mul, if_pos h]; rfl
    · rw [M.mul, hc, if_pos ⟨h.2.1, h.1, h.2.2⟩]; rfl
  · refine .inl ⟨?_, ?_⟩
    · rw [M.mul, if_neg h]; rfl
    · rw [M.mul, hc, if_neg (fun k => h ⟨k.2.1, k.1, k.2.2⟩)]; rfl
theorem M.deg_bd {m : M} (h : m.ok = true) : m.deg = m.x + m.y + m.d + m.e ∧ 0 ≤ m.deg ∧ m.deg ≤ 60 := by
  have := M.ok_iff.1 h
  rw [M.deg, if_pos h]
  exact ⟨rfl, by omega, by omega⟩
theorem mx_comm (a b : Int) : mx a b = mx b a := by unfold mx; split <;> split <;> omega
theorem M.both_comm (a b : M) : M.both a b = M.both b a := by
  unfold M.both
  by_cases h : a.ok = true ∧ b.ok = true
  · rw [if_pos h, if_pos h.symm, mx_comm a.x, mx_comm a.y, mx_comm a.d, mx_comm a.e]
  · rw [if_neg h, if_neg (fun k => h k.symm)]
theorem M.dvd_mk {a b : M} (ha : a.ok = true) (hb : b.ok = true) (h : a.x ≤ b.x ∧ a.y ≤ b.y ∧ a.d ≤ b.d ∧ a.e ≤ b.e) : a.dvd b = true := by
  simp [M.dvd, ha, hb, h]
theorem mx_bd {a b l h : Int} (ha : l ≤ a ∧ a ≤ h) (hb : l ≤ b ∧ b ≤ h) : l ≤ mx a b ∧ mx a b ≤ h ∧ a ≤ mx a b ∧ b ≤ mx a b := by unfold mx; split <;> omega
theorem mx_le {a b c : Int} (ha : a ≤ c) (hb : b ≤ c) : mx a b ≤ c := by unfold mx; split <;> omega
theorem M.both_facts {a b p : M} (ha : a.ok = true) (hb : b.ok = true) (hp : M.both a b = p) : a.dvd p = true ∧ b.dvd p = true ∧ (∀ c : M, a.dvd c = true → b.dvd c = true → p.dvd c = true) ∧ M.both a a = a := by
  rw [M.both, if_pos ⟨ha, hb⟩] at hp
  subst hp
  have ka := M.ok_iff.1 ha
  have kb := M.ok_iff.1 hb
  have hx := mx_bd (a := a.x) (b := b.x) (l := 0) (h := 15) (by omega) (by omega)
  have hy := mx_bd (a := a.y) (b := b.y) (l := 0) (h := 15) (by omega) (by omega)
  have hd := mx_bd (a := a.d) (b := b.d) (l := 0) (h := 15) (by omega) (by omega)
  have he := mx_bd (a := a.e) (b := b.e) (l := 0) (h := 15) (by omega) (by omega)
  have hok : M.ok ⟨mx a.x b.x, mx a.y b.y, mx a.d b.d, mx a.e b.e⟩ = true := M.ok_iff.2 (by dsimp only; omega)
  refine ⟨M.dvd_mk ha hok (by dsimp only; omega), M.dvd_mk hb hok (by dsimp only; omega), fun c h1 h2 => ?_, ?_⟩
  · have k1 := M.dvd_iff h1
    have k2 := M.dvd_iff h2
    exact M.dvd_mk hok k1.2.1 ⟨mx_le k1.2.2.1 k2.2.2.1, mx_le k1.2.2.2.1 k2.2.2.2.1, mx_le k1.2.2.2.2.1 k2.2.2.2.2.1, mx_le k1.2.2.2.2.2 k2.2.2.2.2.2⟩
  · rw [M.both, if_pos ⟨ha, ha⟩]
    have : ∀ z : Int, mx z z = z := fun z => by unfold mx; split <;> rfl
    simp only [this]
end Go.Proofs.YtnfgiplgkobnlaaGreatDoor
namespace Go.Proofs.YtnfgiplgkobnlaaGreatDoor
open Go.RowKit
set_option linter.unusedVariables false

/-- a factor. -/
def fpw (c : UInt8) (n : Int) : List UInt8 := if n ≤ 0 then [] else if n = 1 then [c] else c :: Lib.decDigits n.toNat
def ltr : Nat → UInt8
  | 0 => 120
  | 1 => 121
  | 2 => 100
  | _ => 101
/-- the first factors. -/
def txTo (m : M) : Nat → List UInt8
  | 0 => []
  | k + 1 => txTo m k ++ fpw (ltr k) (cnt m.x m.y m.d m.e k)
def monS (m : M) : List UInt8 := txTo m 4
def monT (m : M) : List UInt8 := if M.ok m = true then (if monS m = [] then [49] else monS m) else []
theorem monS_is (m : M) : monS m = fpw 120 m.x ++ fpw 121 m.y ++ fpw 100 m.d ++ fpw 101 m.e := by
  unfold monS txTo txTo txTo txTo txTo
  simp [ltr, cnt]
theorem dec_one {n : Nat} (h : n < 10) : Lib.decDigits n = [UInt8.ofNat (48 + n)] := by
  rw [Lib.decDigits, dif_pos h]
theorem dec_more {n : Nat} (h : ¬ n < 10) : Lib.decDigits n = Lib.decDigits (n / 10) ++ [UInt8.ofNat (48 + n % 10)] := by
  rw [Lib.decDigits, dif_neg h]
theorem dec_len2 {n : Nat} (h : n < 100) : (Lib.decDigits n).length ≤ 2 := by
  by_cases h1 : n < 10
  · rw [dec_one h1]; simp
  · rw [dec_more h1, dec_one (by omega)]; simp
theorem dec_len4 {n : Nat} (h : n < 10000) : (Lib.decDigits n).length ≤ 4 := by
  by_cases h1 : n < 10
  · rw [dec_one h1]; simp
  · rw [dec_more h1]
    by_cases h2 : n / 10 < 10
    · rw [dec_one h2]; simp
    · rw [dec_more h2]
      have := dec_len2 (n := n / 10 / 10) (by omega)
      simp
      omega
theorem dec_ne (n : Nat) : Lib.decDigits n ≠ [] := by
  by_cases h1 : n < 10
  · rw [dec_one h1]; simp
  · rw [dec_more h1]; simp
theorem fpw_len {c : UInt8} {n : Int} (h : n ≤ 15) : (fpw c n).length ≤ 3 := by
  unfold fpw
  split
  · simp
  · split
    · simp
    · have := dec_len2 (n := n.toNat) (by omega)
      simp
      omega
theorem fpw_zero (c : UInt8) : fpw c 0 = [] := rfl
theorem fpw_one (c : UInt8) : fpw c 1 = [c] := rfl
theorem fpw_more {c : UInt8} {n : Nat} (h : 2 ≤ n) : fpw c (n : Int) = c :: Lib.decDigits n := by
  unfold fpw
  rw [if_neg (by omega), if_neg (by omega), Int.toNat_natCast]
theorem txTo_len {m : M} (h : M.ok m = true) : ∀ k, (txTo m k).length ≤ 3 * k
  | 0 => by simp [txTo]
  | k + 1 => by
    have h1 := txTo_len h k
    have h2 : (fpw (ltr k) (cnt m.x m.y m.d m.e k)).length ≤ 3 := fpw_len (by
      obtain ⟨x1, x2, y1, y2, d1, d2, e1, e2⟩ := M.ok_iff.1 h
      unfold cnt
      split <;> assumption)
    unfold txTo
    simp
    omega
theorem monT_no {m : M} (h : M.ok m = false) : monT m = [] := by unfold monT; rw [if_neg (by rw [h]; simp)]
theorem monT_one {m : M} (h : M.ok m = true) (h0 : monS m = []) : monT m = [49] := by unfold monT; rw [if_pos h, if_pos h0]
theorem monT_is {m : M} (h : M.ok m = true) (h0 : monS m ≠ []) : monT m = monS m := by unfold monT; rw [if_pos h, if_neg h0]
/-- digits that are written from behind. -/
def dcat (k : Nat) (out : List UInt8) : List UInt8 := (if k = 0 then [] else Lib.decDigits k) ++ out
theorem dcat_step {k : Nat} (h : 0 < k) (out : List UInt8) : dcat (k / 10) (UInt8.ofNat (48 + k % 10) :: out) = dcat k out := by
  unfold dcat
  rw [if_neg (show k ≠ 0 by omega)]
  by_cases h1 : k < 10
  · rw [if_pos (by omega), dec_one h1, show k % 10 = k by omega]; rfl
  · rw [if_neg (by omega), dec_more h1]; simp
theorem dcat_zero (out : List UInt8) : dcat 0 out = out := by unfold dcat; simp
theorem dcat_len (k : Nat) (out : List UInt8) : out.length ≤ (dcat k out).length := by unfold dcat; simp
theorem dcat_start {k : Nat} (h : 0 < k) : dcat k [] = Lib.decDigits k := by unfold dcat; rw [if_neg (by omega)]; simp
end Go.Proofs.YtnfgiplgkobnlaaGreatDoor
namespace Go.Proofs.YtnfgiplgkobnlaaGreatDoor
open Go.Shelf Go.RowKit
set_option linter.unusedVariables false

theorem dec_pow {n k : Nat} (h : n < 10 ^ (k + 1)) : (Lib.decDigits n).length ≤ k + 1 := by
  rw [Lib.decDigits_length]
  induction k generalizing n with
  | zero => rw [Lib.nDigits_small (by simpa using h)]; omega
  | succ k ih =>
    by_cases q : n < 10
    · rw [Lib.nDigits_small q]; omega
    · rw [Lib.nDigits_big q]
      have := ih (n := n / 10) (by rw [Nat.pow_succ] at h; omega)
      omega
theorem dec_len20 {n : Nat} (h : n ≤ 9223372036854775807) : (Lib.decDigits n).length ≤ 20 := dec_pow (k := 19) (by omega)
def dcD (c : Int) : List UInt8 := Lib.decDigits c.toNat
/-- a term's text. -/
def trmT (t : T) : List UInt8 := if t.m.x = 0 ∧ t.m.y = 0 ∧ t.m.d = 0 ∧ t.m.e = 0 then dcD t.c else if t.c = 1 then monT t.m else dcD t.c ++ monT t.m
def jnT (f : Nat → T) : Nat → List UInt8
  | 0 => []
  | k + 1 => (if k = 0 then [] else jnT f k ++ [43]) ++ trmT (f k)
def polT (n : Nat) (f : Nat → T) : List UInt8 := if polOk n f = true then (if n = 0 then [48] else jnT f n) else []
theorem polT_no {n : Nat} {f : Nat → T} (h : polOk n f = false) : polT n f = [] := by unfold polT; rw [if_neg (by rw [h]; simp)]
theorem polT_zero {n : Nat} {f : Nat → T} (h : polOk n f = true) (h0 : n = 0) : polT n f = [48] := by unfold polT; rw [if_pos h, if_pos h0]
theorem polT_is {n : Nat} {f : Nat → T} (h : polOk n f = true) (h0 : n ≠ 0) : polT n f = jnT f n := by unfold polT; rw [if_pos h, if_neg h0]
theorem okAt_is {f : Nat → T} {i : Nat} (h : okAt f i = true) : (1 ≤ (f i).c ∧ (f i).c ≤ 100) ∧ (f i).m.ok = true := by
  unfold okAt at h
  simp only [Bool.and_eq_true, decide_eq_true_eq] at h
  exact h.1
theorem polOk_is {n : Nat} {f : Nat → T} (h : polOk n f = true) : n ≤ 400 ∧ ∀ i, i < n → (1 ≤ (f i).c ∧ (f i).c ≤ 100) ∧ (f i).m.ok = true := by
  have h' := of_decide_eq_true h
  exact ⟨h'.1, fun i hi => okAt_is (h'.2 i hi)⟩
theorem dcD_len {c : Int} (h : c ≤ 100) : (dcD c).length ≤ 4 := dec_len4 (by omega)
theorem monT_len {m : M} (h : M.ok m = true) : (monT m).length ≤ 12 := by
  unfold monT
  rw [if_pos h]
  split
  · simp
  · have := txTo_len h 4
    unfold monS
    omega
theorem trmT_len {t : T} (hc : t.c ≤ 100) (h : M.ok t.m = true) : (trmT t).length ≤ 16 := by
  have h1 := dcD_len hc
  have h2 := monT_len h
  unfold trmT
  split
  · omega
  · split
    · omega
    · rw [List.length_append]; omega
theorem jnT_len {f : Nat → T} : ∀ k, (∀ i, i < k → (1 ≤ (f i).c ∧ (f i).c ≤ 100) ∧ (f i).m.ok = true) → (jnT f k).length ≤ 17 * k
  | 0, _ => by simp [jnT]
  | k + 1, h => by
    have h1 := jnT_len k (fun i hi => h i (by omega))
    have h2 := trmT_len (h k (by omega)).1.2 (h k (by omega)).2
    unfold jnT
    rw [List.length_append]
    split
    · simp; omega
    · rw [List.length_append]; simp; omega
theorem fpw_head {c : UInt8} {n : Int} (h : 1 ≤ n) : ∃ r, fpw c n = c :: r := by
  unfold fpw
  rw [if_neg (by omega)]
  split
  · exact ⟨[], rfl⟩
  · exact ⟨_, rfl⟩
theorem fpw_nil {c : UInt8} {n : Int} (h : n ≤ 0) : fpw c n = [] := by unfold fpw; rw [if_pos h]
/-- a monomial but 1 has a text that opens with a letter. -/
theorem monS_head {m : M} (h : M.ok m = true) (h0 : ¬ (m.x = 0 ∧ m.y = 0 ∧ m.d = 0 ∧ m.e = 0)) : ∃ c r, monS m = c :: r ∧ (c = 120 ∨ c = 121 ∨ c = 100 ∨ c = 101) := by
  obtain ⟨x1, x2, y1, y2, d1, d2, e1, e2⟩ := M.ok_iff.1 h
  rw [monS_is]
  by_cases hx : 1 ≤ m.x
  · obtain ⟨r, hr⟩ := fpw_head (c := 120) hx
    exact ⟨120, _, by rw [hr]; rfl, .inl rfl⟩
  rw [fpw_nil (c := 120) (by omega), List.nil_append]
  by_cases hy : 1 ≤ m.y
  · obtain ⟨r, hr⟩ := fpw_head (c := 121) hy
    exact ⟨121, _, by rw [hr]; rfl, .inr (.inl rfl)⟩
  rw [fpw_nil (c := 121) (by omega), List.nil_append]
  by_cases hd : 1 ≤ m.d
  · obtain ⟨r, hr⟩ := fpw_head (c := 100) hd
    exact ⟨100, _, by rw [hr]; rfl, .inr (.inr (.inl rfl))⟩
  rw [fpw_nil (c := 100) (by omega), List.nil_append]
  by_cases he : 1 ≤ m.e
  · obtain ⟨r, hr⟩ := fpw_head (c := 101) he
    exact ⟨101, _, hr, .inr (.inr (.inr rfl))⟩
  · exact absurd ⟨by omega, by omega, by omega, by omega⟩ h0
theorem monT_not1 {m : M} (h : M.ok m = true) (h0 : ¬ (m.x = 0 ∧ m.y = 0 ∧ m.d = 0 ∧ m.e = 0)) : monT m ≠ [49] ∧ monT m ≠ [] := by
  obtain ⟨c, r, e, hc⟩ := monS_head h h0
  rw [monT_is h (by rw [e]; simp), e]
  refine ⟨fun q => ?_, by simp⟩
  rw [List.cons.injEq] at q
  rcases hc with rfl | rfl | rfl | rfl <;> exact absurd q.1 (by decide)
theorem monT_1 : monT ⟨0, 0, 0, 0⟩ = [49] := by decide +kernel
/-- joined texts. -/
theorem joinTail_snoc (sep : List UInt8) (r : List (List UInt8)) (y : List UInt8) : Lib.joinTail sep (r ++ [y]) = Lib.joinTail sep r ++ sep ++ y := by
  unfold Lib.joinTail
  simp
theorem join_snoc (sep : List UInt8) (l : List (List UInt8)) (y : List UInt8) : Lib.join (l ++ [y]) sep = (if l.length = 0 then [] else Lib.join l sep ++ sep) ++ y := by
  cases l with
  | nil => simp [Lib.join_one]
  | cons x r => rw [List.cons_append, Lib.join_cons, Lib.join_cons, joinTail_snoc, if_neg (by simp)]; simp
def txs (f : Nat → T) (k : Nat) : List (List UInt8) := (List.range k).map fun i => trmT (f i)
theorem txs_len (f : Nat → T) (k : Nat) : (txs f k).length = k := by simp [txs]
theorem txs_succ (f : Nat → T) (k : Nat) : txs f (k + 1) = txs f k ++ [trmT (f k)] := by simp [txs, List.range_succ]
theorem join_txs (f : Nat → T) : ∀ k, Lib.join (txs f k) [43] = jnT f k
  | 0 => by simp [txs, jnT, Lib.join_nil]
  | k + 1 => by
    rw [txs_succ, join_snoc, txs_len, join_txs f k]
    rfl
/-! the library's table -/
abbrev Tb (w : World) : Prop := Lib.TabIs Tryz.prog w "internal/strconv.uint64pow10" .u64 Lib.pow10Tab
theorem Tb.below {w w' : World} (h : Tb w) (hb : Below w.heap.size w w') : Tb w' := Lib.tabBelow_of_tabIs h w' hb
shelf_lay LaysM.n171 Nm 171 at Tryz as layM171
theorem itoaAll (n : Nat) (hn : n ≤ 9223372036854775807) (w : World) (h : Tb w) : Calls Tryz.prog 42 #[.int .i64 (n : Int)] w fun e w' => e = .returned (.string ⟨(Lib.decDigits n).toArray⟩) ∧ Below w.heap.size w w' := by
  refine (Any.strconv_Itoa layM171 (n : Int) (by omega) (by omega) w h).mono ?_
  rintro e w' ⟨rfl, k, os, rfl⟩
  refine ⟨?_, ?_⟩
  · unfold Lib.itoa
    rw [if_neg (by omega), Int.toNat_natCast]
  · exact Lib.below_grow _ _ (Nat.le_refl _) _ _
def lay156_ren : Go.Shelf.Ren := ⟨fun | 0 => 0 | 1 => 1 | 2 => 2 | 103 => 102 | 122 => 89 | 125 => 132 | 128 => 154 | 129 => 136 | 143 => 77 | 156 => 22 | 165 => 44 | 166 => 45 | 167 => 71 | 169 => 46 | 170 => 72 | 171 => 42 | 172 => 51 | 197 => 76 | 205 => 125 | 206 => 144 | 210 => 126 | 215 => 112 | 217 => 119 | 219 => 96 | 224 => 121 | 225 => 120 | 240 => 73 | 241 => 74 | 243 => 69 | 244 => 78 | 245 => 79 | 246 => 92 | 247 => 97 | 260 => 95 | 266 => 140 | 267 => 122 | 276 => 93 | 277 => 94 | 279 => 98 | 280 => 99 | 281 => 100 | 282 => 101 | 283 => 115 | 284 => 116 | 285 => 117 | 286 => 118 | 287 => 123 | 314 => 141 | 316 => 124 | 317 => 135 | 318 => 137 | 319 => 138 | 320 => 139 | 321 => 142 | 322 => 143 | 329 => 160 | 330 => 161 | 337 => 157 | 338 => 158 | 347 => 165 | 348 => 166 | 349 => 167 | 350 => 168 | 351 => 169 | 352 => 170 | 353 => 171 | 354 => 172 | 355 => 173 | 356 => 174 | 357 => 175 | 358 => 176 | 359 => 177 | 360 => 178 | 361 => 179 | 362 => 180 | 363 => 183 | 364 => 181 | 365 => 182 | 366 => 184 | 367 => 194 | n => n, fun | 0 => 0 | 1 => 1 | 2 => 2 | 3 => 3 | 4 => 4 | 5 => 5 | 6 => 6 | 7 => 7 | 8 => 8 | 9 => 9 | 10 => 10 | 11 => 11 | 12 => 12 | 13 => 13 | 14 => 14 | 15 => 15 | 16 => 16 | 17 => 17 | 18 => 18 | 19 => 19 | 20 => 20 | 21 => 21 | 22 => 175 | 24 => 137 | 25 => 138 | 26 => 88 | 27 => 113 | 28 => 68 | 31 => 43 | 37 => 22 | 38 => 32 | 43 => 104 | 46 => 150 | 47 => 164 | 51 => 167 | 52 => 184 | 53 => 144 | 54 => 145 | 55 => 154 | 67 => 47 | 68 => 54 | 69 => 83 | 70 => 72 | 71 => 73 | 72 => 74 | 73 => 75 | 74 => 76 | 75 => 77 | 76 => 78 | 77 => 79 | 78 => 108 | 80 => 80 | 81 => 59 | 83 => 57 | 84 => 127 | 85 => 132 | 86 => 133 | 104 => 110 | 105 => 111 | 106 => 112 | 108 => 159 | 111 => 89 | 114 => 60 | 119 => 149 | 127 => 109 | 128 => 114 | 131 => 182 | 137 => 151 | 138 => 152 | 139 => 153 | 143 => 172 | 144 => 173 | 145 => 174 | 146 => 169 | 151 => 170 | 164 => 128 | 165 => 129 | 166 => 130 | 167 => 131 | 168 => 134 | 169 => 135 | 170 => 136 | 171 => 143 | 172 => 146 | 173 => 147 | 174 => 148 | 175 => 155 | 176 => 156 | 182 => 177 | 183 => 178 | 209 => 157 | 210 => 158 | 211 => 165 | 212 => 166 | 213 => 168 | 214 => 171 | 218 => 185 | 219 => 186 | 220 => 187 | 222 => 189 | 228 => 193 | 229 => 86 | 232 => 191 | 233 => 192 | 238 => 195 | 239 => 196 | 240 => 197 | 241 => 198 | 242 => 199 | 243 => 200 | 244 => 201 | 245 => 202 | 246 => 203 | 247 => 204 | 248 => 205 | 249 => 206 | n => n, fun n => n⟩
theorem lay156 : Lays.n156 Tryz.prog lay156_ren where
  mixed := by kernel_rfl
  f156 := Tryz.func22.trans (congrArg some (by kernel_rfl))
  f165 := Tryz.func44.trans (congrArg some (by kernel_rfl))
  f166 := Tryz.func45.trans (congrArg some (by kernel_rfl))
  f169 := Tryz.func46.trans (congrArg some (by kernel_rfl))
  f240 := Tryz.func73.trans (congrArg some (by kernel_rfl))
  f241 := Tryz.func74.trans (congrArg some (by kernel_rfl))
  f276 := Tryz.func93.trans (congrArg some (by kernel_rfl))
  f277 := Tryz.func94.trans (congrArg some (by kernel_rfl))
  t0 := Tryz.underlying0
  a0 := Tryz.isAgg0
  z0 := Tryz.sizeOf0
  v0 := Tryz.zeroValue0
  t3 := Tryz.underlying3
  a3 := Tryz.isAgg3
  z3 := Tryz.sizeOf3
  v3 := Tryz.zeroValue3
  t4 := Tryz.underlying4
  a4 := Tryz.isAgg4
  z4 := Tryz.sizeOf4
  v4 := Tryz.zeroValue4
  t9 := Tryz.underlying9
  a9 := Tryz.isAgg9
  z9 := Tryz.sizeOf9
  v9 := Tryz.zeroValue9
  t20 := Tryz.underlying20
  a20 := Tryz.isAgg20
  z20 := Tryz.sizeOf20
  v20 := Tryz.zeroValue20
  t31 := Tryz.underlying43
  a31 := Tryz.isAgg43
  z31 := Tryz.sizeOf43
  v31 := Tryz.zeroValue43
  t37 := Tryz.underlying22
  a37 := Tryz.isAgg22
  z37 := Tryz.sizeOf22
  v37 := Tryz.zeroValue22
  t70 := Tryz.underlying72
  a70 := Tryz.isAgg72
  z70 := Tryz.sizeOf72
  v70 := Tryz.zeroValue72
  t72 := Tryz.underlying74
  a72 := Tryz.isAgg74
  z72 := Tryz.sizeOf74
  v72 := Tryz.zeroValue74
  t75 := Tryz.underlying77
  a75 := Tryz.isAgg77
  z75 := Tryz.sizeOf77
  v75 := Tryz.zeroValue77
  t76 := Tryz.underlying78
  a76 := Tryz.isAgg78
  z76 := Tryz.sizeOf78
  v76 := Tryz.zeroValue78
  t127 := Tryz.underlying109
  a127 := Tryz.isAgg109
  z127 := Tryz.sizeOf109
  v127 := Tryz.zeroValue109
  t164 := Tryz.underlying128
  a164 := Tryz.isAgg128
  z164 := Tryz.sizeOf128
  v164 := Tryz.zeroValue128
theorem extra156 : Builder.Extra Tryz.prog lay156_ren where
  sizeBuilder := by kernel_rfl
  liesBuilder := by kernel_rfl
  t5 := Tryz.underlying5
  a5 := Tryz.isAgg5
  z5 := Tryz.sizeOf5
  v5 := Tryz.zeroValue5
  infoByte := by kernel_rfl
  cellsByte := by kernel_rfl
  sizeByte := by kernel_rfl
  neB5 := by decide
theorem joinI (bk c : Nat) (xs : List ByteArray) (w : World) (hcells : ∀ (j : Nat) x, xs[j]? = some x → w.cell? ⟨bk, 0 + j, none⟩ = some (.string x)) (hbk : bk < w.heap.size) (hN : xs.length ≤ 140737488355328) (hcap : xs.length ≤ c) (hlen : (Lib.join (xs.map (·.data.toList)) [43]).length ≤ 140737488355328) :
    Calls Tryz.prog 22 #[.slice (some ⟨bk, 0, none⟩) xs.length c, .string ⟨#[43]⟩] w fun e w' => e = .returned (.string ⟨(Lib.join (xs.map (·.data.toList)) [43]).toArray⟩) ∧ Below w.heap.size w w' :=
  Any.strings_Join lay156 extra156 bk 0 c xs ⟨#[43]⟩ w hcells hbk hN hcap hlen
end Go.Proofs.YtnfgiplgkobnlaaGreatDoor
