/-
  Texts of operators, as lists of bytes; the library's table of powers of ten.
-/
import Derived.Test.YtoglomfejgpoeaaDoorTxA
import Derived.Test.YtoglomfejgpoeaaDoorPol
import Derived.Lib.Join
import Derived.Lib.LaidTab
import Derived.Lib.ItoaNum
import Derived.Lib.AppendIntMem
import Derived.Shelf.Lay
import Derived.Shelf.Strconv.Itoa3
import Derived.Shelf.Strings.OnBuilder
import Derived.Ground.NamesProg
namespace Go.Proofs.YtoglomfejgpoeaaDoor
open Go.Shelf Go.RowKit
set_option linter.unusedVariables false

theorem dec_pow {n k : Nat} (h : n < 10 ^ (k + 1)) : (Lib.decDigits n).length ≤ k + 1 := by
  rw [Lib.decDigits_length]
  induction k generalizing n with
  | zero => rw [Lib.nDigits_small (by simpa using h)]; omega
  | succ k ih =>
    by_cases q : n < 10
    · rw [Lib.nDigits_small q]; omega
    · rw [Lib.nDigits_big q]
      have := ih (n := n / 10) (by rw [Nat.pow_succ] at h; omega)
      omega
theorem dec_len20 {n : Nat} (h : n ≤ 9223372036854775807) : (Lib.decDigits n).length ≤ 20 := dec_pow (k := 19) (by omega)
def dcD (c : Int) : List UInt8 := Lib.decDigits c.toNat
/-- a term's text. -/
def trmT (t : T) : List UInt8 := if t.m.x = 0 ∧ t.m.y = 0 ∧ t.m.d = 0 ∧ t.m.e = 0 then dcD t.c else if t.c = 1 then monT t.m else dcD t.c ++ monT t.m
def jnT (f : Nat → T) : Nat → List UInt8
  | 0 => []
  | k + 1 => (if k = 0 then [] else jnT f k ++ [43]) ++ trmT (f k)
def polT (n : Nat) (f : Nat → T) : List UInt8 := if polOk n f = true then (if n = 0 then [48] else jnT f n) else []
theorem polT_no {n : Nat} {f : Nat → T} (h : polOk n f = false) : polT n f = [] := by unfold polT; rw [if_neg (by rw [h]; simp)]
theorem polT_zero {n : Nat} {f : Nat → T} (h : polOk n f = true) (h0 : n = 0) : polT n f = [48] := by unfold polT; rw [if_pos h, if_pos h0]
theorem polT_is {n : Nat} {f : Nat → T} (h : polOk n f = true) (h0 : n ≠ 0) : polT n f = jnT f n := by unfold polT; rw [if_pos h, if_neg h0]
theorem okAt_is {f : Nat → T} {i : Nat} (h : okAt f i = true) : (1 ≤ (f i).c ∧ (f i).c ≤ 100) ∧ (f i).m.ok = true := by
  unfold okAt at h
  simp only [Bool.and_eq_true, decide_eq_true_eq] at h
  exact h.1
theorem polOk_is {n : Nat} {f : Nat → T} (h : polOk n f = true) : n ≤ 400 ∧ ∀ i, i < n → (1 ≤ (f i).c ∧ (f i).c ≤ 100) ∧ (f i).m.ok = true := by
  have h' := of_decide_eq_true h
  exact ⟨h'.1, fun i hi => okAt_is (h'.2 i hi)⟩
theorem dcD_len {c : Int} (h : c ≤ 100) : (dcD c).length ≤ 4 := dec_len4 (by omega)
theorem monT_len {m : M} (h : M.ok m = true) : (monT m).length ≤ 12 := by
  unfold monT
  rw [if_pos h]
  split
  · simp
  · have := txTo_len h 4
    unfold monS
    omega
theorem trmT_len {t : T} (hc : t.c ≤ 100) (h : M.ok t.m = true) : (trmT t).length ≤ 16 := by
  have h1 := dcD_len hc
  have h2 := monT_len h
  unfold trmT
  split
  · omega
  · split
    · omega
    · rw [List.length_append]; omega
theorem jnT_len {f : Nat → T} : ∀ k, (∀ i, i < k → (1 ≤ (f i).c ∧ (f i).c ≤ 100) ∧ (f i).m.ok = true) → (jnT f k).length ≤ 17 * k
  | 0, _ => by simp [jnT]
  | k + 1, h => by
    have h1 := jnT_len k (fun i hi => h i (by omega))
    have h2 := trmT_len (h k (by omega)).1.2 (h k (by omega)).2
    unfold jnT
    rw [List.length_append]
    split
    · simp; omega
    · rw [List.length_append]; simp; omega
theorem fpw_head {c : UInt8} {n : Int} (h : 1 ≤ n) : ∃ r, fpw c n = c :: r := by
  unfold fpw
  rw [if_neg (by omega)]
  split
  · exact ⟨[], rfl⟩
  · exact ⟨_, rfl⟩
theorem fpw_nil {c : UInt8} {n : Int} (h : n ≤ 0) : fpw c n = [] := by unfold fpw; rw [if_pos h]
/-- a monomial but 1 has a text that opens with a letter. -/
theorem monS_head {m : M} (h : M.ok m = true) (h0 : ¬ (m.x = 0 ∧ m.y = 0 ∧ m.d = 0 ∧ m.e = 0)) : ∃ c r, monS m = c :: r ∧ (c = 120 ∨ c = 121 ∨ c = 100 ∨ c = 101) := by
  obtain ⟨x1, x2, y1, y2, d1, d2, e1, e2⟩ := M.ok_iff.1 h
  rw [monS_is]
  by_cases hx : 1 ≤ m.x
  · obtain ⟨r, hr⟩ := fpw_head (c := 120) hx
    exact ⟨120, _, by rw [hr]; rfl, .inl rfl⟩
  rw [fpw_nil (c := 120) (by omega), List.nil_append]
  by_cases hy : 1 ≤ m.y
  · obtain ⟨r, hr⟩ := fpw_head (c := 121) hy
    exact ⟨121, _, by rw [hr]; rfl, .inr (.inl rfl)⟩
  rw [fpw_nil (c := 121) (by omega), List.nil_append]
  by_cases hd : 1 ≤ m.d
  · obtain ⟨r, hr⟩ := fpw_head (c := 100) hd
    exact ⟨100, _, by rw [hr]; rfl, .inr (.inr (.inl rfl))⟩
  rw [fpw_nil (c := 100) (by omega), List.nil_append]
  by_cases he : 1 ≤ m.e
  · obtain ⟨r, hr⟩ := fpw_head (c := 101) he
    exact ⟨101, _, hr, .inr (.inr (.inr rfl))⟩
  · exact absurd ⟨by omega, by omega, by omega, by omega⟩ h0
theorem monT_not1 {m : M} (h : M.ok m = true) (h0 : ¬ (m.x = 0 ∧ m.y = 0 ∧ m.d = 0 ∧ m.e = 0)) : monT m ≠ [49] ∧ monT m ≠ [] := by
  obtain ⟨c, r, e, hc⟩ := monS_head h h0
  rw [monT_is h (by rw [e]; simp), e]
  refine ⟨fun q => ?_, by simp⟩
  rw [List.cons.injEq] at q
  rcases hc with rfl | rfl | rfl | rfl <;> exact absurd q.1 (by decide)
theorem monT_1 : monT ⟨0, 0, 0, 0⟩ = [49] := by decide +kernel
/-- joined texts. -/
theorem joinTail_snoc (sep : List UInt8) (r : List (List UInt8)) (y : List UInt8) : Lib.joinTail sep (r ++ [y]) = Lib.joinTail sep r ++ sep ++ y := by
  unfold Lib.joinTail
  simp
theorem join_snoc (sep : List UInt8) (l : List (List UInt8)) (y : List UInt8) : Lib.join (l ++ [y]) sep = (if l.length = 0 then [] else Lib.join l sep ++ sep) ++ y := by
  cases l with
  | nil => simp [Lib.join_one]
  | cons x r => rw [List.cons_append, Lib.join_cons, Lib.join_cons, joinTail_snoc, if_neg (by simp)]; simp
def txs (f : Nat → T) (k : Nat) : List (List UInt8) := (List.range k).map fun i => trmT (f i)
theorem txs_len (f : Nat → T) (k : Nat) : (txs f k).length = k := by simp [txs]
theorem txs_succ (f : Nat → T) (k : Nat) : txs f (k + 1) = txs f k ++ [trmT (f k)] := by simp [txs, List.range_succ]
theorem join_txs (f : Nat → T) : ∀ k, Lib.join (txs f k) [43] = jnT f k
  | 0 => by simp [txs, jnT, Lib.join_nil]
  | k + 1 => by
    rw [txs_succ, join_snoc, txs_len, join_txs f k]
    rfl
/-! the library's table -/
abbrev Tb (w : World) : Prop := Lib.TabIs Tryd.prog w "internal/strconv.uint64pow10" .u64 Lib.pow10Tab
theorem Tb.below {w w' : World} (h : Tb w) (hb : Below w.heap.size w w') : Tb w' := Lib.tabBelow_of_tabIs h w' hb
shelf_lay LaysM.n171 Nm 171 at Tryd as layM171
theorem itoaAll (n : Nat) (hn : n ≤ 9223372036854775807) (w : World) (h : Tb w) : Calls Tryd.prog 40 #[.int .i64 (n : Int)] w fun e w' => e = .returned (.string ⟨(Lib.decDigits n).toArray⟩) ∧ Below w.heap.size w w' := by
  refine (Any.strconv_Itoa layM171 (n : Int) (by omega) (by omega) w h).mono ?_
  rintro e w' ⟨rfl, k, os, rfl⟩
  refine ⟨?_, ?_⟩
  · unfold Lib.itoa
    rw [if_neg (by omega), Int.toNat_natCast]
  · exact Lib.below_grow _ _ (Nat.le_refl _) _ _
def lay156_ren : Go.Shelf.Ren := ⟨fun | 0 => 0 | 1 => 1 | 2 => 2 | 129 => 61 | 156 => 20 | 165 => 29 | 166 => 30 | 167 => 51 | 169 => 31 | 170 => 52 | 171 => 40 | 240 => 42 | 241 => 43 | 243 => 49 | 246 => 55 | 276 => 53 | 277 => 54 | 283 => 56 | 284 => 57 | 285 => 58 | 286 => 59 | 317 => 60 | 318 => 62 | 319 => 63 | 320 => 64 | 337 => 65 | 338 => 66 | 347 => 67 | 348 => 68 | 349 => 69 | 350 => 70 | 351 => 71 | 352 => 72 | 353 => 73 | 354 => 74 | 355 => 75 | 356 => 76 | 357 => 77 | 358 => 78 | 359 => 79 | 360 => 80 | 361 => 81 | 362 => 82 | 366 => 83 | 367 => 90 | n => n, fun | 0 => 0 | 1 => 1 | 2 => 2 | 3 => 3 | 4 => 4 | 5 => 5 | 6 => 6 | 7 => 7 | 8 => 8 | 9 => 9 | 10 => 10 | 11 => 11 | 12 => 12 | 13 => 13 | 14 => 14 | 15 => 15 | 16 => 16 | 17 => 17 | 18 => 18 | 19 => 19 | 20 => 20 | 21 => 21 | 26 => 77 | 28 => 46 | 31 => 37 | 37 => 39 | 43 => 75 | 46 => 100 | 47 => 101 | 51 => 98 | 52 => 102 | 53 => 91 | 54 => 92 | 67 => 49 | 70 => 64 | 71 => 65 | 72 => 66 | 73 => 67 | 74 => 68 | 75 => 69 | 76 => 70 | 77 => 71 | 78 => 85 | 80 => 72 | 81 => 48 | 83 => 58 | 84 => 89 | 111 => 82 | 114 => 36 | 127 => 80 | 164 => 86 | 165 => 87 | 166 => 88 | 171 => 90 | 172 => 93 | 173 => 94 | 174 => 95 | 211 => 96 | 212 => 97 | 213 => 99 | 232 => 103 | 233 => 104 | 238 => 105 | 239 => 106 | 240 => 107 | 241 => 108 | 242 => 109 | 243 => 110 | 244 => 111 | 245 => 112 | 246 => 113 | 247 => 114 | 248 => 115 | 249 => 116 | n => n, fun n => n⟩
theorem lay156 : Lays.n156 Tryd.prog lay156_ren where
  mixed := by kernel_rfl
  f156 := Tryd.func20.trans (congrArg some (by kernel_rfl))
  f165 := Tryd.func29.trans (congrArg some (by kernel_rfl))
  f166 := Tryd.func30.trans (congrArg some (by kernel_rfl))
  f169 := Tryd.func31.trans (congrArg some (by kernel_rfl))
  f240 := Tryd.func42.trans (congrArg some (by kernel_rfl))
  f241 := Tryd.func43.trans (congrArg some (by kernel_rfl))
  f276 := Tryd.func53.trans (congrArg some (by kernel_rfl))
  f277 := Tryd.func54.trans (congrArg some (by kernel_rfl))
  t0 := Tryd.underlying0
  a0 := Tryd.isAgg0
  z0 := Tryd.sizeOf0
  v0 := Tryd.zeroValue0
  t3 := Tryd.underlying3
  a3 := Tryd.isAgg3
  z3 := Tryd.sizeOf3
  v3 := Tryd.zeroValue3
  t4 := Tryd.underlying4
  a4 := Tryd.isAgg4
  z4 := Tryd.sizeOf4
  v4 := Tryd.zeroValue4
  t9 := Tryd.underlying9
  a9 := Tryd.isAgg9
  z9 := Tryd.sizeOf9
  v9 := Tryd.zeroValue9
  t20 := Tryd.underlying20
  a20 := Tryd.isAgg20
  z20 := Tryd.sizeOf20
  v20 := Tryd.zeroValue20
  t31 := Tryd.underlying37
  a31 := Tryd.isAgg37
  z31 := Tryd.sizeOf37
  v31 := Tryd.zeroValue37
  t37 := Tryd.underlying39
  a37 := Tryd.isAgg39
  z37 := Tryd.sizeOf39
  v37 := Tryd.zeroValue39
  t70 := Tryd.underlying64
  a70 := Tryd.isAgg64
  z70 := Tryd.sizeOf64
  v70 := Tryd.zeroValue64
  t72 := Tryd.underlying66
  a72 := Tryd.isAgg66
  z72 := Tryd.sizeOf66
  v72 := Tryd.zeroValue66
  t75 := Tryd.underlying69
  a75 := Tryd.isAgg69
  z75 := Tryd.sizeOf69
  v75 := Tryd.zeroValue69
  t76 := Tryd.underlying70
  a76 := Tryd.isAgg70
  z76 := Tryd.sizeOf70
  v76 := Tryd.zeroValue70
  t127 := Tryd.underlying80
  a127 := Tryd.isAgg80
  z127 := Tryd.sizeOf80
  v127 := Tryd.zeroValue80
  t164 := Tryd.underlying86
  a164 := Tryd.isAgg86
  z164 := Tryd.sizeOf86
  v164 := Tryd.zeroValue86
theorem extra156 : Builder.Extra Tryd.prog lay156_ren where
  sizeBuilder := by kernel_rfl
  liesBuilder := by kernel_rfl
  t5 := Tryd.underlying5
  a5 := Tryd.isAgg5
  z5 := Tryd.sizeOf5
  v5 := Tryd.zeroValue5
  infoByte := by kernel_rfl
  cellsByte := by kernel_rfl
  sizeByte := by kernel_rfl
  neB5 := by decide
theorem joinI (bk c : Nat) (xs : List ByteArray) (w : World) (hcells : ∀ (j : Nat) x, xs[j]? = some x → w.cell? ⟨bk, 0 + j, none⟩ = some (.string x)) (hbk : bk < w.heap.size) (hN : xs.length ≤ 140737488355328) (hcap : xs.length ≤ c) (hlen : (Lib.join (xs.map (·.data.toList)) [43]).length ≤ 140737488355328) :
    Calls Tryd.prog 20 #[.slice (some ⟨bk, 0, none⟩) xs.length c, .string ⟨#[43]⟩] w fun e w' => e = .returned (.string ⟨(Lib.join (xs.map (·.data.toList)) [43]).toArray⟩) ∧ Below w.heap.size w w' :=
  Any.strings_Join lay156 extra156 bk 0 c xs ⟨#[43]⟩ w hcells hbk hN hcap hlen
end Go.Proofs.YtoglomfejgpoeaaDoor
