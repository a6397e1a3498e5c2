/-
  The program's parts that read a line: the library's Cut, SplitN and Index, and the map of readers.
-/
import Derived.Test.YtkcmamepoplcdaaGreatDoorDrO
import Derived.Test.YtkcmamepoplcdaaGreatDoorGar
import Derived.Shelf.Strings.Cut
import Derived.Shelf.Strings.Split
import Derived.Shelf.Strings.Search3
import Derived.Shelf.LaysM
import Derived.Maps.OwnSet
import Derived.Maps.OwnOps
import Derived.Maps.Views
import Derived.StringKeys
import Derived.WalkSmall
namespace Go.Proofs.YtkcmamepoplcdaaGreatDoor
open Go.Shelf Go.RowKit Go.Maps
set_option linter.unusedVariables false
set_option linter.unusedSimpArgs false
shelf_lay LaysM.n145 Nm 145 at Tryz as layM145
shelf_lay LaysM.n147 Nm 147 at Tryz as layM147
shelf_lay LaysM.n143 Nm 143 at Tryz as layM143
/-- the library's bound holds some number. -/
def Mxl (w : World) : Prop := ∃ m, w.cell? ⟨1, 0, none⟩ = some (.int .i64 m)
theorem Mxl.below {w w' : World} (h : Mxl w) (hb : Below w.heap.size w w') : Mxl w' := h.imp fun m e => (hb.cell (p := ⟨1, 0, none⟩) (World.block_lt_of_cell? _ _ e)).trans e
theorem cutI (l : List UInt8) (hl : l.length ≤ 1048576) (w : World) (h : Mxl w) : Calls Tryz.prog 36 #[.string ⟨l.toArray⟩, .string ⟨#[32]⟩] w fun e w' => e = .returned (.tuple #[.string ⟨(Lib.cut l [32]).1.toArray⟩, .string ⟨(Lib.cut l [32]).2.1.toArray⟩, .bool (Lib.cut l [32]).2.2]) ∧ Below w.heap.size w w' := by
  obtain ⟨m, hm⟩ := h
  refine (Any.strings_Cut layM145.ton145 ⟨l.toArray⟩ ⟨#[32]⟩ m w (by show l.toArray.size < _; simp; omega) hm).mono ?_
  rintro e w' ⟨rfl, n, rfl⟩
  exact ⟨rfl, below_drewN (Below.refl _ _) n⟩
theorem idxI (l : List UInt8) (w : World) (h : Mxl w) : Calls Tryz.prog 97 #[.string ⟨#[65, 66, 67, 68, 69, 70]⟩, .string ⟨l.toArray⟩] w fun e w' => e = .returned (.int .i64 (ixW l)) ∧ w' = w := by
  obtain ⟨m, hm⟩ := h
  exact Any.strings_Index lay143 ⟨#[65, 66, 67, 68, 69, 70]⟩ ⟨l.toArray⟩ m w (by show (6 : Nat) < _; omega) hm
theorem splitK_le : ∀ (k : Nat) (s : List UInt8), (Lib.splitK [32] 0 k s).length ≤ k + 1
  | 0, s => by simp [Lib.splitK]
  | k + 1, s => by
    unfold Lib.splitK
    split
    · simp
    · exact Nat.succ_le_succ (splitK_le k _)
theorem splitK_ge (s : List UInt8) (k : Nat) : 1 ≤ (Lib.splitK [32] 0 k s).length := by
  cases k with
  | zero => simp [Lib.splitK]
  | succ k => unfold Lib.splitK; split <;> simp
theorem splitK_mem (s : List UInt8) (k : Nat) : ∀ x ∈ Lib.splitK [32] 0 k s, x.length ≤ s.length := by
  induction k generalizing s with
  | zero => intro x hx; simp [Lib.splitK] at hx; rw [hx]; exact Nat.le_refl _
  | succ k ih =>
    intro x hx
    unfold Lib.splitK at hx
    split at hx
    · simp at hx; rw [hx]; exact Nat.le_refl _
    · rcases List.mem_cons.1 hx with e | e
      · rw [e]; simp; omega
      · have := ih _ x e
        simp only [List.length_drop] at this
        omega
theorem splitI' (l : List UInt8) (hl : l.length ≤ 1048576) (n : Nat) (hn : 1 ≤ n) (hn3 : n ≤ 3) (w : World) (h : Mxl w) : Calls Tryz.prog 98 #[.string ⟨l.toArray⟩, .string ⟨#[32]⟩, .int .i64 n] w fun e w' => ∃ cp, e = .returned (.slice (some ⟨w.heap.size, 0, none⟩) (Lib.splitN l [32] n).length cp) ∧ Below w.heap.size w w' ∧ w.heap.size < w'.heap.size ∧ ∀ (j : Nat) (x : List UInt8), (Lib.splitN l [32] n)[j]? = some x → w'.cell? ⟨w.heap.size, j, none⟩ = some (.string ⟨x.toArray⟩) := by
  obtain ⟨m, hm⟩ := h
  have hsz : (⟨l.toArray⟩ : ByteArray).size = l.length := by show l.toArray.size = _; simp
  refine (Any.strings_SplitN layM147.ton147 layM147.i9 ⟨l.toArray⟩ ⟨#[32]⟩ n m w (by rw [hsz]; omega) hm (by decide) hn (by omega)).mono ?_
  rintro e w' ⟨rfl, rfl⟩
  have hd := Lib.splitB_data ⟨#[32]⟩ 0 (min n ((⟨l.toArray⟩ : ByteArray).size + 1) - 1) ⟨l.toArray⟩
  have hd2 : (Lib.splitB ⟨#[32]⟩ 0 (min n ((⟨l.toArray⟩ : ByteArray).size + 1) - 1) ⟨l.toArray⟩).map (·.data.toList) = Lib.splitN l [32] n := by
    rw [hd, hsz]; rfl
  have hlen : (Lib.splitB ⟨#[32]⟩ 0 (min n ((⟨l.toArray⟩ : ByteArray).size + 1) - 1) ⟨l.toArray⟩).length = (Lib.splitN l [32] n).length := by rw [← hd2, List.length_map]
  refine ⟨_, by rw [hlen], (Below.refl _ _).alloc (Nat.le_refl _) _, by simp, fun j x hx => ?_⟩
  rw [← hd2, List.getElem?_map] at hx
  cases hq : (Lib.splitB ⟨#[32]⟩ 0 (min n ((⟨l.toArray⟩ : ByteArray).size + 1) - 1) ⟨l.toArray⟩)[j]? with
  | none => rw [hq] at hx; cases hx
  | some b =>
    rw [hq] at hx
    cases hx
    rw [World.cell?_alloc_at _ _ _ _ rfl]
    unfold Lib.cellsOf
    have hj := (List.getElem?_eq_some_iff.1 hq).1
    rw [List.getElem?_toArray, List.getElem?_append_left (by rw [List.length_map]; exact hj), List.getElem?_map, hq]
    rfl
/-! the map of readers -/
def fnV (k : Int) : Value := .func (.func (if k = 1 then 66 else 67)) #[.int .i64 k] #[]
open Classical in
noncomputable def fnR (v : Value) : Option (DataW Unit × List MemPlace) := if v = .nilFunc then some (.lit (.int .i64 0), []) else if h : ∃ k : Int, (1 ≤ k ∧ k ≤ 8) ∧ v = fnV k then some (.lit (.int .i64 h.choose), []) else none
theorem fnV_inj {k k' : Int} (h : fnV k = fnV k') : k = k' := by
  unfold fnV at h
  injection h with _ h2 _
  simpa using h2
theorem fnR_of {k : Int} (hk : 1 ≤ k ∧ k ≤ 8) : fnR (fnV k) = some (.lit (.int .i64 k), []) := by
  have h : ∃ k' : Int, (1 ≤ k' ∧ k' ≤ 8) ∧ fnV k = fnV k' := ⟨k, hk, rfl⟩
  unfold fnR
  rw [if_neg (by unfold fnV; intro e; cases e), dif_pos h, ← fnV_inj h.choose_spec.2]
theorem fnR_nil : fnR .nilFunc = some (.lit (.int .i64 0), []) := by unfold fnR; rw [if_pos rfl]
theorem fnR_inv {v : Value} {k : Int} {ps : List MemPlace} (h : fnR v = some (.lit (.int .i64 k), ps)) : (k = 0 ∧ v = .nilFunc) ∨ ((1 ≤ k ∧ k ≤ 8) ∧ v = fnV k) := by
  unfold fnR at h
  split at h
  · rename_i e
    simp only [Option.some.injEq, Prod.mk.injEq, DataW.lit.injEq, Lit.int.injEq, true_and] at h
    exact .inl ⟨h.1.symm, e⟩
  · split at h
    · rename_i q
      simp only [Option.some.injEq, Prod.mk.injEq, DataW.lit.injEq, Lit.int.injEq, true_and] at h
      have z := q.choose_spec
      rw [h.1] at z
      exact .inr z
    · cases h
def kyL (w : List UInt8) : Lit := .string w
def rdP (D : DataW Unit) (k : Int) : DataW Unit := D.put (kyL (nam k)) (.lit (.int .i64 k))
def rdD : DataW Unit := rdP (rdP (rdP (rdP (rdP (rdP (rdP (rdP (.map []) 1) 2) 3) 4) 5) 6) 7) 8
theorem rdP_map {D : DataW Unit} (h : IsMap D) (k : Int) : IsMap (rdP D k) := by
  obtain ⟨es, rfl⟩ := h
  exact ⟨_, rfl⟩
theorem rdP_at {D : DataW Unit} (h : IsMap D) (k : Int) (w : List UInt8) (z : DataW Unit) : (rdP D k).atKey (kyL w) z = (if w = nam k then .lit (.int .i64 k) else D.atKey (kyL w) z) ∧ Maps.has (rdP D k) (kyL w) = (if w = nam k then true else Maps.has D (kyL w)) := by
  by_cases e : w = nam k
  · subst e
    rw [if_pos rfl, if_pos rfl]
    exact ⟨atKey_put_same h (by trivial) _ _, has_put_same h (by trivial) _⟩
  · rw [if_neg e, if_neg e]
    have hne : kyL w ≠ kyL (nam k) := fun q => e (by cases q; rfl)
    exact ⟨atKey_put_other hne _ _, has_put_other hne _⟩
theorem rdD_at (w : List UInt8) : rdD.atKey (kyL w) (.lit (.int .i64 0)) = .lit (.int .i64 (kn w)) ∧ Maps.has rdD (kyL w) = decide (kn w ≠ 0) := by
  have m0 : IsMap (.map [] : DataW Unit) := ⟨_, rfl⟩
  have m1 := rdP_map m0 1
  have m2 := rdP_map m1 2
  have m3 := rdP_map m2 3
  have m4 := rdP_map m3 4
  have m5 := rdP_map m4 5
  have m6 := rdP_map m5 6
  have m7 := rdP_map m6 7
  unfold rdD
  rw [(rdP_at m7 8 w _).1, (rdP_at m6 7 w _).1, (rdP_at m5 6 w _).1, (rdP_at m4 5 w _).1, (rdP_at m3 4 w _).1, (rdP_at m2 3 w _).1, (rdP_at m1 2 w _).1, (rdP_at m0 1 w _).1]
  rw [(rdP_at m7 8 w .nil).2, (rdP_at m6 7 w .nil).2, (rdP_at m5 6 w .nil).2, (rdP_at m4 5 w .nil).2, (rdP_at m3 4 w .nil).2, (rdP_at m2 3 w .nil).2, (rdP_at m1 2 w .nil).2, (rdP_at m0 1 w .nil).2]
  by_cases hk : kn w = 0
  · have hn : ∀ k : Int, 1 ≤ k ∧ k ≤ 8 → w ≠ nam k := fun k hk1 e => by rw [e, kn_nam hk1] at hk; omega
    rw [hk]
    simp only [if_neg (hn 1 (by omega)), if_neg (hn 2 (by omega)), if_neg (hn 3 (by omega)), if_neg (hn 4 (by omega)), if_neg (hn 5 (by omega)), if_neg (hn 6 (by omega)), if_neg (hn 7 (by omega)), if_neg (hn 8 (by omega))]
    exact ⟨rfl, rfl⟩
  · have hw := nam_kn hk
    have hb := kn_bd w
    generalize kn w = k at hk hw hb
    subst hw
    rcases (show k = 1 ∨ k = 2 ∨ k = 3 ∨ k = 4 ∨ k = 5 ∨ k = 6 ∨ k = 7 ∨ k = 8 by omega) with rfl | rfl | rfl | rfl | rfl | rfl | rfl | rfl <;> refine ⟨?_, ?_⟩ <;> (repeat (first | rfl | rw [if_pos rfl] | rw [if_neg (by decide)]))
theorem wpList_insert_own {H : Type} {P : Program} (w : World) {ops : Array Oper} {rest : List Oper} {o : Oper} {a : Act} {Q : Exit → Act → World → Prop}
    (hg : o.guard = none) (m x v : Operand) (t : TypeId) (hop : o.op = Op.insert t m x v)
    (k e : TypeId) (K : Keyed P k) (ht : P.underlying t = some (.map k e)) (R : Value → Option (DataW H × List MemPlace)) (b n : Nat) (D : DataW H)
    (hm : a.eval m = .map (some b)) (hown : w.ownsMap P k R b n D) (hn : n < maxLen) (key val : Value) (kl : Lit) (hx : a.eval x = key) (hv : a.eval v = val) (hkey : keyOf P k key = some kl)
    (d : DataW H) (ps : List MemPlace) (hval : R val = some (d, ps))
    (hK : ∀ w', w'.ownsMap P k R b (n + 1) (D.put kl d) → w.grownBy w' (some b) → wpList P ops Q rest (a.put o.dst undef) w') :
    wpList P ops Q (o :: rest) a w := by
  refine wpList_plain hg fun K' hK' => ?_
  obtain ⟨w', hrun, r1, r2⟩ := hown.update K ht hn hkey hval
  unfold Oper.wp
  simp [execOp, hop, hm, hx, hv, hrun, Result.andThen]
  exact hK' _ _ (hK w' r1 r2)
theorem keyS (w : List UInt8) (hw : w.length ≤ 1048576) : keyOf Tryz.prog 9 (.string ⟨w.toArray⟩) = some (kyL w) := Go.WideMaps.keyOf_string_mk Tryz.underlying9 (s := ⟨w.toArray⟩) (by show w.toArray.size ≤ maxLen; unfold maxLen; simp; omega)
set_option maxRecDepth 100000 in
set_option maxHeartbeats 4000000 in
theorem dskReadersI (w : World) : Calls Tryz.prog 37 #[] w fun e w' => ∃ b, e = .returned (.map (some b)) ∧ w'.ownsMap Tryz.prog 9 fnR b 8 rdD ∧ Below w.heap.size w w' := by
  have m0 := World.ownsMap_made w Tryz.prog 9 fnR
  have HB0 := Hid.mk' (Below.alloc (Below.refl w.heap.size w) (Nat.le_refl _) (.map #[] 0))
  have HS0 := HB0.out.size
  have hmm := @run_makeMap Tryz.prog
  have ky1 : keyOf Tryz.prog 9 (.string ⟨#[115, 101, 116]⟩) = some (kyL (nam 1)) := keyS (nam 1) (by decide)
  have fv1 : fnR (.func (.func 66) #[.int .i64 1] #[]) = some (.lit (.int .i64 1), []) := fnR_of (k := 1) (by omega)
  have ky2 : keyOf Tryz.prog 9 (.string ⟨#[97, 100, 100]⟩) = some (kyL (nam 2)) := keyS (nam 2) (by decide)
  have fv2 : fnR (.func (.func 67) #[.int .i64 2] #[]) = some (.lit (.int .i64 2), []) := fnR_of (k := 2) (by omega)
  have ky3 : keyOf Tryz.prog 9 (.string ⟨#[109, 117, 108]⟩) = some (kyL (nam 3)) := keyS (nam 3) (by decide)
  have fv3 : fnR (.func (.func 67) #[.int .i64 3] #[]) = some (.lit (.int .i64 3), []) := fnR_of (k := 3) (by omega)
  have ky4 : keyOf Tryz.prog 9 (.string ⟨#[97, 112, 97, 114, 116]⟩) = some (kyL (nam 4)) := keyS (nam 4) (by decide)
  have fv4 : fnR (.func (.func 67) #[.int .i64 4] #[]) = some (.lit (.int .i64 4), []) := fnR_of (k := 4) (by omega)
  have ky5 : keyOf Tryz.prog 9 (.string ⟨#[100, 111]⟩) = some (kyL (nam 5)) := keyS (nam 5) (by decide)
  have fv5 : fnR (.func (.func 67) #[.int .i64 5] #[]) = some (.lit (.int .i64 5), []) := fnR_of (k := 5) (by omega)
  have ky6 : keyOf Tryz.prog 9 (.string ⟨#[114, 111, 117, 110, 100]⟩) = some (kyL (nam 6)) := keyS (nam 6) (by decide)
  have fv6 : fnR (.func (.func 67) #[.int .i64 6] #[]) = some (.lit (.int .i64 6), []) := fnR_of (k := 6) (by omega)
  have ky7 : keyOf Tryz.prog 9 (.string ⟨#[98, 97, 99, 107]⟩) = some (kyL (nam 7)) := keyS (nam 7) (by decide)
  have fv7 : fnR (.func (.func 67) #[.int .i64 7] #[]) = some (.lit (.int .i64 7), []) := fnR_of (k := 7) (by omega)
  have ky8 : keyOf Tryz.prog 9 (.string ⟨#[115, 104, 111, 119]⟩) = some (kyL (nam 8)) := keyS (nam 8) (by decide)
  have fv8 : fnR (.func (.func 67) #[.int .i64 8] #[]) = some (.lit (.int .i64 8), []) := fnR_of (k := 8) (by omega)
  go_enter Tryz.func37, Tryz.ntmps37
  go_wp2_with (first
    | (refine wpList_insert_own _ rfl _ _ _ 57 rfl 9 55 (string_keyed Tryz.underlying9) Tryz.underlying57 fnR w.heap.size 7 _ rfl m7 (by decide) _ _ (kyL (nam 8)) rfl rfl ky8 (.lit (.int .i64 8)) [] fv8 ?_; intro w8 m8 g8; have HB8 := Hid.mk' (HB7.out.grown g8 HB7.out.size (fun q e => by cases e; exact Nat.le_refl _)); clear g8)
    | (refine wpList_insert_own _ rfl _ _ _ 57 rfl 9 55 (string_keyed Tryz.underlying9) Tryz.underlying57 fnR w.heap.size 6 _ rfl m6 (by decide) _ _ (kyL (nam 7)) rfl rfl ky7 (.lit (.int .i64 7)) [] fv7 ?_; intro w7 m7 g7; have HB7 := Hid.mk' (HB6.out.grown g7 HB6.out.size (fun q e => by cases e; exact Nat.le_refl _)); clear g7)
    | (refine wpList_insert_own _ rfl _ _ _ 57 rfl 9 55 (string_keyed Tryz.underlying9) Tryz.underlying57 fnR w.heap.size 5 _ rfl m5 (by decide) _ _ (kyL (nam 6)) rfl rfl ky6 (.lit (.int .i64 6)) [] fv6 ?_; intro w6 m6 g6; have HB6 := Hid.mk' (HB5.out.grown g6 HB5.out.size (fun q e => by cases e; exact Nat.le_refl _)); clear g6)
    | (refine wpList_insert_own _ rfl _ _ _ 57 rfl 9 55 (string_keyed Tryz.underlying9) Tryz.underlying57 fnR w.heap.size 4 _ rfl m4 (by decide) _ _ (kyL (nam 5)) rfl rfl ky5 (.lit (.int .i64 5)) [] fv5 ?_; intro w5 m5 g5; have HB5 := Hid.mk' (HB4.out.grown g5 HB4.out.size (fun q e => by cases e; exact Nat.le_refl _)); clear g5)
    | (refine wpList_insert_own _ rfl _ _ _ 57 rfl 9 55 (string_keyed Tryz.underlying9) Tryz.underlying57 fnR w.heap.size 3 _ rfl m3 (by decide) _ _ (kyL (nam 4)) rfl rfl ky4 (.lit (.int .i64 4)) [] fv4 ?_; intro w4 m4 g4; have HB4 := Hid.mk' (HB3.out.grown g4 HB3.out.size (fun q e => by cases e; exact Nat.le_refl _)); clear g4)
    | (refine wpList_insert_own _ rfl _ _ _ 57 rfl 9 55 (string_keyed Tryz.underlying9) Tryz.underlying57 fnR w.heap.size 2 _ rfl m2 (by decide) _ _ (kyL (nam 3)) rfl rfl ky3 (.lit (.int .i64 3)) [] fv3 ?_; intro w3 m3 g3; have HB3 := Hid.mk' (HB2.out.grown g3 HB2.out.size (fun q e => by cases e; exact Nat.le_refl _)); clear g3)
    | (refine wpList_insert_own _ rfl _ _ _ 57 rfl 9 55 (string_keyed Tryz.underlying9) Tryz.underlying57 fnR w.heap.size 1 _ rfl m1 (by decide) _ _ (kyL (nam 2)) rfl rfl ky2 (.lit (.int .i64 2)) [] fv2 ?_; intro w2 m2 g2; have HB2 := Hid.mk' (HB1.out.grown g2 HB1.out.size (fun q e => by cases e; exact Nat.le_refl _)); clear g2)
    | (refine wpList_insert_own _ rfl _ _ _ 57 rfl 9 55 (string_keyed Tryz.underlying9) Tryz.underlying57 fnR w.heap.size 0 _ rfl m0 (by decide) _ _ (kyL (nam 1)) rfl rfl ky1 (.lit (.int .i64 1)) [] fv1 ?_; intro w1 m1 g1; have HB1 := Hid.mk' (HB0.out.grown g1 HB0.out.size (fun q e => by cases e; exact Nat.le_refl _)); clear g1))
  go_ret
  refine ⟨_, rfl, m8, ?_⟩
  exact HB8.out
end Go.Proofs.YtkcmamepoplcdaaGreatDoor
