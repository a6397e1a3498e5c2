/-
  slices.SortFunc of monomials, laid.
  Sums while they are made: a map from monomials to numbers; what adding a term to it does.
  A sum while it is made, as the numbers of its monomials.
-/
import Derived.Test.YtoglomfejgpoeaaGreatDoorGaq
import Derived.Shelf.SlSortCmp.InsertionK
import Derived.Shelf.Lay
import Derived.Ground.SlsfProg
import Derived.Test.YtoglomfejgpoeaaGreatDoorGab
import Derived.Test.YtoglomfejgpoeaaGreatDoorGaa
import Derived.ProofKit
import Derived.Maps.OwnSet
import Derived.Maps.OwnOps
import Derived.Maps.Views
import Derived.Maps.AppendAt
namespace Go.Proofs.YtoglomfejgpoeaaGreatDoor
open Go.RowKit Go.Sort Go.Shelf Go.Lib
set_option linter.unusedVariables false

/-- a monomial that is ok. -/
abbrev OM : Type := { m : M // m.ok = true }
def cellsO (m : OM) : List Value := [.int .i64 m.1.x, .int .i64 m.1.y, .int .i64 m.1.d, .int .i64 m.1.e]
instance : Inhabited OM := ⟨⟨⟨0, 0, 0, 0⟩, by decide⟩⟩
theorem cmpLaysM (Br blk off size : Nat) (w : World) (hB : Br < w.heap.size) (hne : Br ≠ blk) (hr : w.cell? ⟨Br, 0, none⟩ = some (.func (.func 91) #[] #[])) :
    CmpLays Tryz.prog 153 #[.pointer (some ⟨Br, 0, none⟩)] cellsO 4 (fun x y => c3 (rkD x.1) (rkD y.1)) blk off size w := by
  intro m os dk hdk x y
  have hr' : (sortWorldK cellsO 4 w blk off m dk os).cell? ⟨Br, 0, none⟩ = some (.func (.func 91) #[] #[]) := by
    unfold sortWorldK
    rw [cell?_grow _ _ _ (by rw [size_putRowK]; exact hB), cell?_putRowK_other _ _ _ blk off dk _ hne]
    exact hr
  have hB' : Br < (sortWorldK cellsO 4 w blk off m dk os).heap.size := by
    unfold sortWorldK
    rw [Go.Sort.size_grow, size_putRowK]
    exact Nat.lt_of_lt_of_le hB (Nat.le_add_right _ _)
  refine (cmpClosure Br _ _ _ _ _ _ _ _ _ x.2 y.2 hB' hr').mono ?_
  rintro e w' ⟨rfl, hg⟩
  exact ⟨rfl, hg.form⟩
theorem ltM (x y : OM) : ltOf (fun x y : OM => c3 (rkD x.1) (rkD y.1)) x y = decide (rkD x.1 < rkD y.1) := by
  unfold ltOf c3
  by_cases h1 : rkD x.1 < rkD y.1
  · simp [h1]
  · by_cases h2 : rkD y.1 < rkD x.1 <;> simp [h1, h2]
theorem swoM : SWO (ltOf fun x y : OM => c3 (rkD x.1) (rkD y.1)) where
  irrefl x := by rw [ltM]; simp
  trans x y z h1 h2 := by rw [ltM] at *; simp at *; omega
  ntrans x y z h1 h2 := by rw [ltM] at *; simp at *; omega
shelf_lay_g SlLaysF0.n6 Slsf 6 at Tryz 177 as sortM
end Go.Proofs.YtoglomfejgpoeaaGreatDoor
namespace Go.Proofs.YtoglomfejgpoeaaGreatDoor
open Go.RowKit Go.Maps
set_option linter.unusedVariables false

theorem laidOutK : laidOutB Tryz.prog = true := by kernel_rfl
theorem lawM : Keyed Tryz.prog 78 := Keyed.of_law (deep_law_laid laidOutK (m := 2) (by omega) (of_decide_eq_true (by kernel_rfl)) (by kernel_rfl) (by kernel_rfl))
theorem wf15 {n : Int} (h0 : 0 ≤ n) (h1 : n ≤ 15) : (Lit.int .i64 n).wf = true := WalkArith.wf_i64 (by omega)
/-- what a monomial reads as among the keys. -/
def keyM (m : M) : Lit := .string (keyBytes [.int .i64 m.x, .int .i64 m.y, .int .i64 m.d, .int .i64 m.e])
theorem keyOfM {m : M} (h : m.ok = true) : keyOf Tryz.prog 78 (.agg #[.int .i64 m.x, .int .i64 m.y, .int .i64 m.d, .int .i64 m.e]) = some (keyM m) := by
  obtain ⟨x1, x2, y1, y2, d1, d2, e1, e2⟩ := M.ok_iff.1 h
  have w1 := wf15 x1 x2
  have w2 := wf15 y1 y2
  have w3 := wf15 d1 d2
  have w4 := wf15 e1 e2
  have hk : Tryz.prog.keyType 78 = true := by kernel_rfl
  have hc : Tryz.prog.cellsOf 78 = 4 := by kernel_rfl
  have h1 : Tryz.prog.cellsOf 3 = 1 := by kernel_rfl
  obtain ⟨D, hD⟩ : ∃ D, Tryz.prog.types.size + 1 = D + 1 + 1 := ⟨Tryz.prog.types.size - 1, by have : 0 < Tryz.prog.types.size := of_decide_eq_true (by kernel_rfl); omega⟩
  unfold keyOf
  simp only [Tryz.underlying78, hk, hD, Value.formed, hc]
  simp [Program.keyLits, Tryz.underlying78, hc, h1, w1, w2, w3, w4, Value.cells, keyM]
theorem zeroN (w : World) : (zeroValue 99).run Tryz.prog w = .ok (.int .i64 0) w := by kernel_rfl
theorem wf100 {n : Int} (h0 : 0 ≤ n) (h1 : n ≤ 100) : (Lit.int .i64 n).wf = true := WalkArith.wf_i64 (by omega)
theorem ownsMap_more {w : World} {P : Program} {k : TypeId} {R : Value → Option (DataW Unit × List MemPlace)} {b n n' : Nat} {D : DataW Unit} (h : w.ownsMap P k R b n D) (hn : n ≤ n') : w.ownsMap P k R b n' D := by
  obtain ⟨es, clock, h1, h2, h3, h4⟩ := h
  exact ⟨es, clock, h1, h2, Nat.le_trans h3 hn, h4⟩
/-- what a sum's map reads as behind one more term. -/
def addD (D : DataW Unit) (m : M) (v : Int) : DataW Unit := if v = 0 then D.del (keyM m) else D.put (keyM m) (.lit (.int .i64 v))
set_option maxHeartbeats 1000000 in
theorem sumAdd (b n : Nat) (D : DataW Unit) (c0 c : Int) (m : M) (w : World) (hm : m.ok = true) (hown : w.ownsMap Tryz.prog 78 (plainElem Tryz.prog 99) b n D) (hn : n < maxLen)
    (hat : D.atKey (keyM m) (.lit (.int .i64 0)) = .lit (.int .i64 c0)) (a0 : 0 ≤ c0) (a1 : c0 ≤ 100) (h0 : 0 ≤ c) (h1 : c ≤ 100) :
    Calls Tryz.prog 85 #[.map (some b), .int .i64 c, .agg #[.int .i64 m.x, .int .i64 m.y, .int .i64 m.d, .int .i64 m.e]] w fun e w' => e = .returned (.tuple #[]) ∧ w'.ownsMap Tryz.prog 78 (plainElem Tryz.prog 99) b (n + 1) (addD D m ((c0 + c) % 101)) ∧ w.grownBy w' (some b) := by
  have hkey := keyOfM hm
  have r0 : 0 ≤ (c0 + c) % 101 := by omega
  have r1 : (c0 + c) % 101 ≤ 100 := by omega
  have hg0 := World.grownBy_alloc w (.cells #[.int .i64 m.x, .int .i64 m.y, .int .i64 m.d, .int .i64 m.e] 78) (some b)
  have ho0 := hown.alloc (.cells #[.int .i64 m.x, .int .i64 m.y, .int .i64 m.d, .int .i64 m.e] 78)
  by_cases hz : (c0 + c) % 101 = 0
  · have e1 : addD D m ((c0 + c) % 101) = D.del (keyM m) := by simp [addD, hz]
    rw [e1]
    go_enter Tryz.func85, Tryz.ntmps85
    go_wp2_with (first
      | (at_lookup; refine wpList_lookup_own_int _ rfl _ _ 101 rfl 78 99 .i64 lawM Tryz.underlying101 Tryz.underlying99 (zeroN _) b n D rfl ho0 _ _ rfl hkey ?_; intro c1 hat1 hwc1; obtain rfl : c1 = c0 := (by rw [hat] at hat1; simpa using hat1.symm))
      | (go_at_call 127; refine (plus _ _ _ a0 a1 h0 h1).mono ?_; rintro r w2 ⟨rfl, hw⟩; obtain rfl := hw.symm; clear hw)
      | (at_delete; refine wpList_delete_own _ rfl _ _ 101 78 rfl 99 lawM Tryz.underlying101 _ b n D rfl ho0 _ _ rfl hkey ?_; intro w1 hown1 hturn1)
      | go_in)
    refine bodyPost_ret (results_none rfl _ _ _) rfl ?_
    exact ⟨rfl, ownsMap_more hown1 (Nat.le_succ _), hg0.trans hturn1.grown⟩
  · have e1 : addD D m ((c0 + c) % 101) = D.put (keyM m) (.lit (.int .i64 ((c0 + c) % 101))) := by simp [addD, hz]
    rw [e1]
    have hzb : ((c0 + c) % 101 == 0) = false := by simpa using hz
    go_enter Tryz.func85, Tryz.ntmps85
    go_wp2_with (first
      | (at_lookup; refine wpList_lookup_own_int _ rfl _ _ 101 rfl 78 99 .i64 lawM Tryz.underlying101 Tryz.underlying99 (zeroN _) b n D rfl ho0 _ _ rfl hkey ?_; intro c1 hat1 hwc1; obtain rfl : c1 = c0 := (by rw [hat] at hat1; simpa using hat1.symm))
      | (go_at_call 127; refine (plus _ _ _ a0 a1 h0 h1).mono ?_; rintro r w2 ⟨rfl, hw⟩; obtain rfl := hw.symm; clear hw)
      | (at_mapUpdate; refine wpList_mapUpdate_own _ rfl _ _ _ 101 rfl 78 99 lawM Tryz.underlying101 _ b n D rfl ho0 hn _ _ _ rfl rfl hkey _ [] (plainElem_int Tryz.underlying99 (wf100 r0 r1)) ?_; intro w1 hown1 hgrow1)
      | go_in)
    go_end0
    exact ⟨rfl, hown1, hg0.trans hgrow1⟩
end Go.Proofs.YtoglomfejgpoeaaGreatDoor
namespace Go.Proofs.YtoglomfejgpoeaaGreatDoor
open Go.RowKit Go.Maps
set_option linter.unusedVariables false

theorem keyM_inj {a b : M} (ha : a.ok = true) (hb : b.ok = true) (h : keyM a = keyM b) : a = b := by
  have h1 := keyOfM ha
  have h2 := keyOfM hb
  rw [← h] at h2
  have h3 := lawM.inj h1 h2
  cases a; cases b
  simpa using h3
/-- the map in block b (of at most n entries) is the sum whose monomial m has the number c m. -/
def SumR (w : World) (b n : Nat) (c : M → Int) : Prop :=
  ∃ D : DataW Unit, w.ownsMap Tryz.prog 78 (plainElem Tryz.prog 99) b n D ∧ (∀ m, 0 ≤ c m ∧ c m ≤ 100) ∧
    (∀ m : M, m.ok = true → D.atKey (keyM m) (.lit (.int .i64 0)) = .lit (.int .i64 (c m)) ∧ (Maps.has D (keyM m) = true ↔ c m ≠ 0)) ∧ (∀ kl, Maps.has D kl = true → ∃ m : M, m.ok = true ∧ kl = keyM m)
def meq (a b : M) : Bool := decide (a.x = b.x ∧ a.y = b.y ∧ a.d = b.d ∧ a.e = b.e)
theorem meq_iff {a b : M} : meq a b = true ↔ a = b := by cases a; cases b; simp [meq]
def updC (c : M → Int) (m : M) (v : Int) (x : M) : Int := if meq x m = true then (c m + v) % 101 else c x
theorem updC_same (c : M → Int) (m : M) (v : Int) : updC c m v m = (c m + v) % 101 := if_pos (meq_iff.2 rfl)
theorem updC_other {c : M → Int} {m x : M} {v : Int} (h : x ≠ m) : updC c m v x = c x := if_neg (fun e => h (meq_iff.1 e))
theorem SumR.grown {w w' : World} {b n : Nat} {c : M → Int} {row : Option Nat} (h : SumR w b n c) (hg : w.grownBy w' row) (hne : some b ≠ row) : SumR w' b n c := by
  obtain ⟨D, ⟨es, clock, h1, h2, h3, h4⟩, h5⟩ := h
  have hlt : b < w.heap.size := by
    rcases Nat.lt_or_ge b w.heap.size with h | h
    · exact h
    · rw [Array.getElem?_eq_none h] at h1; cases h1
  exact ⟨D, ⟨es, clock, (hg.block b hlt hne).trans h1, h2, h3, h4⟩, h5⟩
theorem sumAddR (b n : Nat) (c : M → Int) (v : Int) (m : M) (w : World) (hm : m.ok = true) (h : SumR w b n c) (hn : n < maxLen) (h0 : 0 ≤ v) (h1 : v ≤ 100) :
    Calls Tryz.prog 85 #[.map (some b), .int .i64 v, .agg #[.int .i64 m.x, .int .i64 m.y, .int .i64 m.d, .int .i64 m.e]] w fun e w' => e = .returned (.tuple #[]) ∧ SumR w' b (n + 1) (updC c m v) ∧ w.grownBy w' (some b) := by
  obtain ⟨D, hown, hc, hat, hks⟩ := h
  have hD : IsMap D := (hown.tidy lawM).isMap
  have hK : WideAt.IsKeyLit (keyM m) := lawM.key (keyOfM hm)
  refine (sumAdd b n D (c m) v m w hm hown hn (hat m hm).1 (hc m).1 (hc m).2 h0 h1).mono ?_
  rintro e w' ⟨rfl, ho, hg⟩
  refine ⟨rfl, ⟨_, ho, fun x => ?_, fun x hx => ?_, fun kl hkl => ?_⟩, hg⟩
  · unfold updC
    split
    · omega
    · exact hc x
  · by_cases hxm : x = m
    · subst hxm
      rw [updC_same]
      unfold addD
      split
      · rename_i hz
        rw [atKey_del_same, has_del_same, hz]
        exact ⟨rfl, by simp⟩
      · rename_i hz
        rw [atKey_put_same hD hK, has_put_same hD hK]
        exact ⟨rfl, by simp [hz]⟩
    · have hne : keyM x ≠ keyM m := fun e => hxm (keyM_inj hx hm e)
      rw [updC_other hxm]
      unfold addD
      split
      · rw [atKey_del_other hne, has_del_other hne]; exact hat x hx
      · rw [atKey_put_other hne, has_put_other hne]; exact hat x hx
  · by_cases hkm : kl = keyM m
    · exact ⟨m, hm, hkm⟩
    · unfold addD at hkl
      split at hkl
      · rw [has_del_other hkm] at hkl; exact hks kl hkl
      · rw [has_put_other hkm] at hkl; exact hks kl hkl
end Go.Proofs.YtoglomfejgpoeaaGreatDoor
