/-
  An operator that is ok falls.
  A term put into a sum, in the model.
  Sums while they are made: a map from monomials to numbers; what adding a term to it does.
-/
import Derived.Test.YtmlaedpamobmhaaGreatPae
import Derived.Test.YtmlaedpamobmhaaGreatPab
import Derived.Test.YtmlaedpamobmhaaGreatPaa
import Derived.ProofKit
import Derived.Maps.OwnSet
import Derived.Maps.OwnOps
import Derived.Maps.Views
import Derived.Maps.AppendAt
namespace Go.Proofs.YtmlaedpamobmhaaGreat
open Go.RowKit
set_option linter.unusedVariables false

theorem fl_of_ok {n : Nat} {f : Nat → T} (h : polOk n f = true) : Fl f n := by
  have hp := h
  simp only [polOk, decide_eq_true_eq] at hp
  have h1 : ∀ i, i < n → (f i).m.ok = true ∧ 1 ≤ (f i).c ∧ (f i).c ≤ 100 := fun i hi => by
    have := hp.2 i hi
    simp only [okAt, Bool.and_eq_true, decide_eq_true_eq] at this
    exact ⟨this.1.2, this.1.1⟩
  refine ⟨fun j i hji hi => ?_, h1⟩
  induction i with
  | zero => omega
  | succ i ih =>
    have h2 := hp.2 (i + 1) hi
    simp only [okAt, Bool.and_eq_true, Bool.or_eq_true, decide_eq_true_eq] at h2
    have h3 := h2.2.resolve_left (by omega)
    rw [show i + 1 - 1 = i by omega] at h3
    have h4 := (ord_pos (h1 i (by omega)).1 (h1 (i + 1) hi).1).1 h3
    by_cases hji2 : j = i
    · rw [hji2]; exact h4
    · have := ih (by omega) (by omega)
      omega
end Go.Proofs.YtmlaedpamobmhaaGreat
namespace Go.Proofs.YtmlaedpamobmhaaGreat
open Go.RowKit
set_option linter.unusedVariables false

def putT (c : Int) (m : M) (L : List T) : List T := if c = 0 then L else addT (lf L) L.length (fun _ => ⟨c, m⟩) 1 0 0
/-- all numbers are of the field. -/
def Cok (L : List T) : Prop := ∀ t ∈ L, 0 ≤ t.c ∧ t.c ≤ 100
theorem cok_nil : Cok [] := fun t ht => by simp at ht
theorem lf_mem {L : List T} {i : Nat} (h : i < L.length) : lf L i ∈ L := by
  unfold lf
  rw [List.getD_eq_getElem?_getD, List.getElem?_eq_getElem h]
  exact List.getElem_mem h
theorem Cok.at {L : List T} (h : Cok L) : ∀ i, i < L.length → 0 ≤ (lf L i).c ∧ (lf L i).c ≤ 100 := fun i hi => h _ (lf_mem hi)
theorem addI_c {f : Nat → T} {la : Nat} {g : Nat → T} {lb : Nat} (hf : ∀ i, i < la → 0 ≤ (f i).c ∧ (f i).c ≤ 100) (hg : ∀ i, i < lb → 0 ≤ (g i).c ∧ (g i).c ≤ 100) : ∀ (u i k : Nat), Cok (mrgI f la g lb u i k)
  | 0, _, _ => by intro t ht; simp [mrgI] at ht
  | u + 1, i, k => by
    have a1 := addI_c hf hg u (i + 1) k
    have a2 := addI_c hf hg u i (k + 1)
    have a3 := addI_c hf hg u (i + 1) (k + 1)
    intro t ht
    simp only [mrgI] at ht
    split at ht
    · rename_i hh
      split at ht
      · rcases List.mem_cons.1 ht with rfl | ht
        · exact hf i hh.1
        · exact a1 t ht
      · split at ht
        · rcases List.mem_cons.1 ht with rfl | ht
          · exact hg k hh.2
          · exact a2 t ht
        · split at ht
          · rcases List.mem_cons.1 ht with rfl | ht
            · dsimp only; omega
            · exact a3 t ht
          · exact a3 t ht
    · split at ht
      · rename_i hh
        rcases List.mem_cons.1 ht with rfl | ht
        · exact hf i hh
        · exact a1 t ht
      · split at ht
        · rename_i hh
          rcases List.mem_cons.1 ht with rfl | ht
          · exact hg k hh
          · exact a2 t ht
        · cases ht
theorem putT_c {c : Int} {m : M} {L : List T} (hL : Cok L) (h0 : 0 ≤ c) (h1 : c ≤ 100) : Cok (putT c m L) := by
  unfold putT
  split
  · exact hL
  · exact addI_c hL.at (fun _ _ => ⟨h0, h1⟩) _ _ _
theorem putT_len (c : Int) (m : M) (L : List T) : (putT c m L).length ≤ L.length + 1 := by
  unfold putT
  split
  · omega
  · have := addT_len (lf L) L.length (fun _ => ⟨c, m⟩) 1 0 0
    omega
theorem rd_one (w : World) (t : T) : Rd (w.alloc (.cells #[.int .i64 t.c, .int .i64 t.m.x, .int .i64 t.m.y, .int .i64 t.m.d, .int .i64 t.m.e] 54)) (some ⟨w.heap.size, 0, none⟩) 1 1 (fun _ => t) := by
  refine ⟨Nat.le_refl _, by omega, .inr ⟨w.heap.size, 0, rfl, by simp, fun i hi => ?_⟩⟩
  obtain rfl : i = 0 := by omega
  exact ⟨by rw [World.cell?_alloc_at _ _ _ _ rfl]; rfl, by rw [World.cell?_alloc_at _ _ _ _ rfl]; rfl, by rw [World.cell?_alloc_at _ _ _ _ rfl]; rfl, by rw [World.cell?_alloc_at _ _ _ _ rfl]; rfl, by rw [World.cell?_alloc_at _ _ _ _ rfl]; rfl⟩
set_option maxRecDepth 100000 in
set_option maxHeartbeats 2000000 in
theorem l4PutS (w : World) (lo : Nat) (v : Value) (L : List T) (c x y d e : Int) (ho : w.ownsRow lo 54 5 v L.length (cellsL L)) (hlo : lo ≤ w.heap.size) (hl : L.length ≤ 1000) (hL : Cok L) (h0 : 0 ≤ c) (h1 : c ≤ 100) :
    Calls Tryz.prog 78 #[v, .int .i64 c, .agg #[.int .i64 x, .int .i64 y, .int .i64 d, .int .i64 e]] w fun r w' => ∃ v', r = .returned v' ∧ Below w.heap.size w w' ∧ w'.ownsRow lo 54 5 v' (putT c ⟨x, y, d, e⟩ L).length (cellsL (putT c ⟨x, y, d, e⟩ L)) := by
  by_cases hc : c = 0
  · subst hc
    have e1 : putT 0 ⟨x, y, d, e⟩ L = L := by simp [putT]
    rw [e1]
    have HO := Hid.mk' (owns_below ho (bel_one w (.cells #[.int .i64 x, .int .i64 y, .int .i64 d, .int .i64 e] 52)))
    clear ho e1
    go_enter Tryz.func78, Tryz.ntmps78
    go_wp2
    go_ret
    exact ⟨_, rfl, bel_one w _, HO.out⟩
  · have hcb : (c == 0) = false := by simp [hc]
    have e1 : putT c ⟨x, y, d, e⟩ L = addT (lf L) L.length (fun _ => ⟨c, ⟨x, y, d, e⟩⟩) 1 0 0 := by simp [putT, hc]
    rw [e1]
    obtain ⟨a, cap, rfl, hout⟩ := out_of_owns ho (by omega)
    have HR := Hid.mk' hout.1
    clear ho hout hc e1
    go_enter Tryz.func78, Tryz.ntmps78
    go_wp2_with fail
    have ha := Hid.mk' ((HR.out.below (bel_one w (.cells #[.int .i64 x, .int .i64 y, .int .i64 d, .int .i64 e] 52))).below (bel_one _ (.cells #[.int .i64 c, .int .i64 x, .int .i64 y, .int .i64 d, .int .i64 e] 54)))
    have hb := rd_one (w.alloc (.cells #[.int .i64 x, .int .i64 y, .int .i64 d, .int .i64 e] 52)) ⟨c, ⟨x, y, d, e⟩⟩
    have hb2 : Rd ((w.alloc (.cells #[.int .i64 x, .int .i64 y, .int .i64 d, .int .i64 e] 52)).alloc (.cells #[.int .i64 c, .int .i64 x, .int .i64 y, .int .i64 d, .int .i64 e] 54)) (some ⟨w.heap.size + 1, 0, none⟩) 1 1 (fun _ => ⟨c, ⟨x, y, d, e⟩⟩) := by simpa using hb
    have hz := Hid.mk' (bel_next (bel_one w (.cells #[.int .i64 x, .int .i64 y, .int .i64 d, .int .i64 e] 52)) (bel_one _ (.cells #[.int .i64 c, .int .i64 x, .int .i64 y, .int .i64 d, .int .i64 e] 54)))
    clear hb
    generalize ((w.alloc (.cells #[.int .i64 x, .int .i64 y, .int .i64 d, .int .i64 e] 52)).alloc (.cells #[.int .i64 c, .int .i64 x, .int .i64 y, .int .i64 d, .int .i64 e] 54)) = W at ha hb2 hz ⊢
    refine (l3AddS _ _ _ _ _ _ _ (lf L) (fun _ => ⟨c, ⟨x, y, d, e⟩⟩) ha.out hb2 (by omega) hL.at (fun _ _ => ⟨h0, h1⟩)).mono ?_
    rintro r w1 ⟨v', rfl, hb1, hown⟩
    have HB := Hid.mk' (bel_next hz.out hb1)
    have HO := Hid.mk' (owns_lower hown (Nat.le_trans hlo hz.out.size))
    clear hb2 hb1 hown ha hz HR
    go_wp2
    go_ret
    exact ⟨_, rfl, HB.out, HO.out⟩
end Go.Proofs.YtmlaedpamobmhaaGreat
namespace Go.Proofs.YtmlaedpamobmhaaGreat
open Go.RowKit Go.Maps
set_option linter.unusedVariables false

theorem laidOutK : laidOutB Tryz.prog = true := by kernel_rfl
theorem lawM : Keyed Tryz.prog 52 := Keyed.of_law (deep_law_laid laidOutK (m := 2) (by omega) (of_decide_eq_true (by kernel_rfl)) (by kernel_rfl) (by kernel_rfl))
theorem wf15 {n : Int} (h0 : 0 ≤ n) (h1 : n ≤ 15) : (Lit.int .i64 n).wf = true := WalkArith.wf_i64 (by omega)
/-- what a monomial reads as among the keys. -/
def keyM (m : M) : Lit := .string (keyBytes [.int .i64 m.x, .int .i64 m.y, .int .i64 m.d, .int .i64 m.e])
theorem keyOfM {m : M} (h : m.ok = true) : keyOf Tryz.prog 52 (.agg #[.int .i64 m.x, .int .i64 m.y, .int .i64 m.d, .int .i64 m.e]) = some (keyM m) := by
  obtain ⟨x1, x2, y1, y2, d1, d2, e1, e2⟩ := M.ok_iff.1 h
  have w1 := wf15 x1 x2
  have w2 := wf15 y1 y2
  have w3 := wf15 d1 d2
  have w4 := wf15 e1 e2
  have hk : Tryz.prog.keyType 52 = true := by kernel_rfl
  have hc : Tryz.prog.cellsOf 52 = 4 := by kernel_rfl
  have h1 : Tryz.prog.cellsOf 3 = 1 := by kernel_rfl
  obtain ⟨D, hD⟩ : ∃ D, Tryz.prog.types.size + 1 = D + 1 + 1 := ⟨Tryz.prog.types.size - 1, by have : 0 < Tryz.prog.types.size := of_decide_eq_true (by kernel_rfl); omega⟩
  unfold keyOf
  simp only [Tryz.underlying52, hk, hD, Value.formed, hc]
  simp [Program.keyLits, Tryz.underlying52, hc, h1, w1, w2, w3, w4, Value.cells, keyM]
theorem zeroN (w : World) : (zeroValue 121).run Tryz.prog w = .ok (.int .i64 0) w := by kernel_rfl
theorem wf100 {n : Int} (h0 : 0 ≤ n) (h1 : n ≤ 100) : (Lit.int .i64 n).wf = true := WalkArith.wf_i64 (by omega)
theorem ownsMap_more {w : World} {P : Program} {k : TypeId} {R : Value → Option (DataW Unit × List MemPlace)} {b n n' : Nat} {D : DataW Unit} (h : w.ownsMap P k R b n D) (hn : n ≤ n') : w.ownsMap P k R b n' D := by
  obtain ⟨es, clock, h1, h2, h3, h4⟩ := h
  exact ⟨es, clock, h1, h2, Nat.le_trans h3 hn, h4⟩
/-- what a sum's map reads as behind one more term. -/
def addD (D : DataW Unit) (m : M) (v : Int) : DataW Unit := if v = 0 then D.del (keyM m) else D.put (keyM m) (.lit (.int .i64 v))
set_option maxHeartbeats 1000000 in
theorem sumAdd (b n : Nat) (D : DataW Unit) (c0 c : Int) (m : M) (w : World) (hm : m.ok = true) (hown : w.ownsMap Tryz.prog 52 (plainElem Tryz.prog 121) b n D) (hn : n < maxLen)
    (hat : D.atKey (keyM m) (.lit (.int .i64 0)) = .lit (.int .i64 c0)) (a0 : 0 ≤ c0) (a1 : c0 ≤ 100) (h0 : 0 ≤ c) (h1 : c ≤ 100) :
    Calls Tryz.prog 137 #[.map (some b), .int .i64 c, .agg #[.int .i64 m.x, .int .i64 m.y, .int .i64 m.d, .int .i64 m.e]] w fun e w' => e = .returned (.tuple #[]) ∧ w'.ownsMap Tryz.prog 52 (plainElem Tryz.prog 121) b (n + 1) (addD D m ((c0 + c) % 101)) ∧ w.grownBy w' (some b) := by
  have hkey := keyOfM hm
  have r0 : 0 ≤ (c0 + c) % 101 := by omega
  have r1 : (c0 + c) % 101 ≤ 100 := by omega
  have hg0 := World.grownBy_alloc w (.cells #[.int .i64 m.x, .int .i64 m.y, .int .i64 m.d, .int .i64 m.e] 52) (some b)
  have ho0 := hown.alloc (.cells #[.int .i64 m.x, .int .i64 m.y, .int .i64 m.d, .int .i64 m.e] 52)
  by_cases hz : (c0 + c) % 101 = 0
  · have e1 : addD D m ((c0 + c) % 101) = D.del (keyM m) := by simp [addD, hz]
    rw [e1]
    go_enter Tryz.func137, Tryz.ntmps137
    go_wp2_with (first
      | (at_lookup; refine wpList_lookup_own_int _ rfl _ _ 123 rfl 52 121 .i64 lawM Tryz.underlying123 Tryz.underlying121 (zeroN _) b n D rfl ho0 _ _ rfl hkey ?_; intro c1 hat1 hwc1; obtain rfl : c1 = c0 := (by rw [hat] at hat1; simpa using hat1.symm))
      | (go_at_call 160; refine (plus _ _ _ a0 a1 h0 h1).mono ?_; rintro r w2 ⟨rfl, hw⟩; obtain rfl := hw.symm; clear hw)
      | (at_delete; refine wpList_delete_own _ rfl _ _ 123 52 rfl 121 lawM Tryz.underlying123 _ b n D rfl ho0 _ _ rfl hkey ?_; intro w1 hown1 hturn1)
      | go_in)
    refine bodyPost_ret (results_none rfl _ _ _) rfl ?_
    exact ⟨rfl, ownsMap_more hown1 (Nat.le_succ _), hg0.trans hturn1.grown⟩
  · have e1 : addD D m ((c0 + c) % 101) = D.put (keyM m) (.lit (.int .i64 ((c0 + c) % 101))) := by simp [addD, hz]
    rw [e1]
    have hzb : ((c0 + c) % 101 == 0) = false := by simpa using hz
    go_enter Tryz.func137, Tryz.ntmps137
    go_wp2_with (first
      | (at_lookup; refine wpList_lookup_own_int _ rfl _ _ 123 rfl 52 121 .i64 lawM Tryz.underlying123 Tryz.underlying121 (zeroN _) b n D rfl ho0 _ _ rfl hkey ?_; intro c1 hat1 hwc1; obtain rfl : c1 = c0 := (by rw [hat] at hat1; simpa using hat1.symm))
      | (go_at_call 160; refine (plus _ _ _ a0 a1 h0 h1).mono ?_; rintro r w2 ⟨rfl, hw⟩; obtain rfl := hw.symm; clear hw)
      | (at_mapUpdate; refine wpList_mapUpdate_own _ rfl _ _ _ 123 rfl 52 121 lawM Tryz.underlying123 _ b n D rfl ho0 hn _ _ _ rfl rfl hkey _ [] (plainElem_int Tryz.underlying121 (wf100 r0 r1)) ?_; intro w1 hown1 hgrow1)
      | go_in)
    go_end0
    exact ⟨rfl, hown1, hg0.trans hgrow1⟩
end Go.Proofs.YtmlaedpamobmhaaGreat
