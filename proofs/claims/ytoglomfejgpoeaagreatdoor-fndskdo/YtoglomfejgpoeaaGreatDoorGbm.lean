/-
  The program writes a line (DskText).
  Lines that come in, are copied and are held against each other.
  What a row's list says of the program's table of words.
-/
import Derived.Test.YtoglomfejgpoeaaGreatDoorGbl
import Derived.Test.YtoglomfejgpoeaaGreatDoorGbj
import Derived.Test.YtoglomfejgpoeaaGreatDoorGak
import Derived.Test.YtoglomfejgpoeaaGreatDoorGaf
import Derived.Lib.SmallJoins
import Derived.ProofKit
import Derived.LaidMore
import Derived.Stop.LaidErr
import Derived.OpenShut
import Derived.ChangeArms
namespace Go.Proofs.YtoglomfejgpoeaaGreatDoor
open Go.Shelf Go.RowKit
set_option linter.unusedVariables false
set_option linter.unusedSimpArgs false
/-- the program's table of words. -/
def Dw (w : World) : Prop := ∀ k : Nat, 1 ≤ k → k ≤ 8 → w.cell? ⟨0, k, none⟩ = some (.string ⟨(nam (k : Int)).toArray⟩)
theorem Dw.below {w w' : World} (h : Dw w) (hb : Below w.heap.size w w') : Dw w' := fun k h1 h2 => (hb.cell (p := ⟨0, k, none⟩) (World.block_lt_of_cell? _ _ (h k h1 h2))).trans (h k h1 h2)
theorem joinG (bk c : Nat) (xs : List (List UInt8)) (w : World) (hcells : ∀ (j : Nat) x, xs[j]? = some x → w.cell? ⟨bk, j, none⟩ = some (.string ⟨x.toArray⟩)) (hbk : bk < w.heap.size) (hN : xs.length ≤ 1000) (hcap : xs.length ≤ c) (hlen : (Lib.join xs [32]).length ≤ 140737488355328) :
    Calls Tryz.prog 71 #[.slice (some ⟨bk, 0, none⟩) xs.length c, .string ⟨#[32]⟩] w fun e w' => e = .returned (.string ⟨(Lib.join xs [32]).toArray⟩) ∧ Below w.heap.size w w' := by
  have e : (xs.map fun l => (⟨l.toArray⟩ : ByteArray)).map (fun s => s.data.toList) = xs := map_back xs
  have := Any.strings_Join lay156 extra156 bk 0 c (xs.map fun l => (⟨l.toArray⟩ : ByteArray)) ⟨#[32]⟩ w (fun j s hs => by
    rw [Nat.zero_add]
    rw [List.getElem?_map] at hs
    cases hq : xs[j]? with
    | none => rw [hq] at hs; cases hs
    | some l => rw [hq] at hs; cases hs; exact hcells j l hq) hbk (by rw [List.length_map]; omega) (by rw [List.length_map]; exact hcap) (by rw [e]; exact hlen)
  rw [List.length_map, e] at this
  exact this
theorem letS {x : Int} (h0 : 0 ≤ x) (h5 : x ≤ 5) (u : World) : (Instr.slice 9 (.string ⟨#[65, 66, 67, 68, 69, 70]⟩) (some (.int .i64 x)) (some (.int .i64 (x + 1))) none).run Tryz.prog u = .ok (.string ⟨#[slB x]⟩) u := by
  rcases (show x = 0 ∨ x = 1 ∨ x = 2 ∨ x = 3 ∨ x = 4 ∨ x = 5 by omega) with rfl | rfl | rfl | rfl | rfl | rfl <;> kernel_rfl
theorem nam_len (k : Int) : (nam k).length ≤ 5 := by
  unfold nam
  repeat (first | (split; · simp) | simp)
def wdJ (k to a b : Int) (j : Nat) : List (List UInt8) := nam k :: (slts to a b).take j
theorem wdJ_succ (k to a b : Int) {j : Nat} (hj : j < 3) : wdJ k to a b (j + 1) = wdJ k to a b j ++ [[slB (sv to a b j)]] := by
  rcases (show j = 0 ∨ j = 1 ∨ j = 2 by omega) with rfl | rfl | rfl <;> rfl
theorem wdJ_len (k to a b : Int) {j : Nat} (hj : j ≤ 3) : (wdJ k to a b j).length = j + 1 := by
  rcases (show j = 0 ∨ j = 1 ∨ j = 2 ∨ j = 3 by omega) with rfl | rfl | rfl | rfl <;> rfl
theorem join_app (ws : List (List UInt8)) (x : List UInt8) : (Lib.join (ws ++ [x]) [32]).length ≤ (Lib.join ws [32]).length + 1 + x.length := by
  rw [join_snoc]
  split
  · simp
  · simp; omega
theorem join_bd (k to a b : Int) : ∀ j, j ≤ 3 → (Lib.join (wdJ k to a b j) [32]).length ≤ 20
  | 0, _ => by
    show (Lib.join [nam k] [32]).length ≤ 20
    rw [Lib.join_one]
    have := nam_len k
    omega
  | 1, _ => by
    have := nam_len k
    show (Lib.join [nam k, [slB to]] [32]).length ≤ 20
    simp [Lib.join_cons, Lib.joinTail]; omega
  | 2, _ => by
    have := nam_len k
    show (Lib.join [nam k, [slB to], [slB a]] [32]).length ≤ 20
    simp [Lib.join_cons, Lib.joinTail]; omega
  | 3, _ => by
    have := nam_len k
    show (Lib.join [nam k, [slB to], [slB a], [slB b]] [32]).length ≤ 20
    simp [Lib.join_cons, Lib.joinTail]; omega
  | n + 4, h => by omega
theorem wdsL_is (k to a b : Int) (n : Nat) (f : Nat → T) : wdsL k to a b n f = wdJ k to a b (nmd k) ++ if k = 1 then [polT n f] else [] := rfl
def DtI (w : World) (ws : List (List UInt8)) (v : Value) (wr : World) : Prop := OwT w.heap.size v ws wr ∧ Below w.heap.size w wr
theorem whl_parts {k to a b : Int} {n : Nat} {f : Nat → T} (h : whl k to a b n f = true) : (1 ≤ k ∧ k ≤ 8) ∧ (0 ≤ to ∧ to ≤ 5) ∧ (0 ≤ a ∧ a ≤ 5) ∧ (0 ≤ b ∧ b ≤ 5) ∧ polOk n f = true := by
  have := of_decide_eq_true h
  exact ⟨this.1, this.2.1, this.2.2.1, this.2.2.2.1, this.2.2.2.2.1⟩
theorem nmd_bd {k : Int} (h : 1 ≤ k ∧ k ≤ 8) : 1 ≤ nmd k ∧ nmd k ≤ 3 := by
  unfold nmd
  split
  · omega
  · split
    · omega
    · split
      · omega
      · omega
theorem polT_bd {n : Nat} {f : Nat → T} (h : polOk n f = true) : (polT n f).length ≤ 6801 := by
  unfold polT
  rw [if_pos h]
  split
  · simp
  · have := jnT_len n (fun i hi => (polOk_is h).2 i hi)
    have := (polOk_is h).1
    omega
/-- the words under way. -/
def DjI (w w1 : World) (B4 : Nat) (k to a b : Int) (pa : Option Addr) (n cap : Nat) (f : Nat → T) (j : Nat) (v : Value) (wr : World) : Prop :=
  OwT w1.heap.size v (wdJ k to a b j) wr ∧ Below w.heap.size w wr ∧ Rd wr pa n cap f ∧ (∀ i, i < 5 → wr.cell? ⟨w.heap.size, i, none⟩ = #[Value.int .i64 k, .int .i64 to, .int .i64 a, .int .i64 b, .slice pa n cap][i]?) ∧ wr.heap[B4]? = some (.cells #[.int .i64 to, .int .i64 a, .int .i64 b] 88 (0, 0))
theorem dj_cell {wr : World} {B4 : Nat} {to a b : Int} (h : wr.heap[B4]? = some (.cells #[.int .i64 to, .int .i64 a, .int .i64 b] 88 (0, 0))) {j : Nat} (hj : j < 3) : wr.cell? ⟨B4, j, none⟩ = some (.int .i64 (sv to a b j)) := by
  rw [cell_of_row wr B4 j _ _ _ h]
  rcases (show j = 0 ∨ j = 1 ∨ j = 2 by omega) with rfl | rfl | rfl <;> rfl
theorem owt_row {lo : Nat} {g k cp : Nat} {xs : List (List UInt8)} {w : World} (h : OwT lo (.slice (some ⟨g, 0, none⟩) k cp) xs w) : ∃ cur, w.heap[g]? = some (.cells cur 9 (0, 0)) := by
  rcases h.2 with ⟨e, _⟩ | ⟨g', cap', cur, e, h2, h3, _⟩
  · cases e
  · cases e
    exact ⟨cur, h3⟩
theorem owt_cap {lo : Nat} {g k cp : Nat} {xs : List (List UInt8)} {w : World} (h : OwT lo (.slice (some ⟨g, 0, none⟩) k cp) xs w) : k ≤ cp := by
  rcases h.2 with ⟨e, _⟩ | ⟨g', cap', cur, e, h2, h3, h4, _⟩
  · cases e
  · cases e
    exact h4
theorem bel_a' {a w : World} (h : Below a.heap.size a w) (o : Obj) : Below a.heap.size a (w.alloc o) := h.alloc h.size o
theorem DjI.next {w w1 : World} {B4 : Nat} {k to a b : Int} {pa : Option Addr} {n cap : Nat} {f : Nat → T} {j g cp : Nat} {wr : World} {x : Int} (h : DjI w w1 B4 k to a b pa n cap f j (.slice (some ⟨g, 0, none⟩) (j + 1) cp) wr) (hj : j < 3) (hs0 : w.heap.size < wr.heap.size) (hs1 : w1.heap.size ≤ wr.heap.size) (hws : wdJ k to a b (j + 1) = wdJ k to a b j ++ [[slB x]]) {w7 : World} {g1 cap1 : Nat}
    (hown : w7.ownsRow w1.heap.size 9 1 (.slice (some ⟨g1, 0, none⟩) (j + 1 + 1) cap1) (j + 1 + 1) (stL (wdJ k to a b j) ++ [.string ⟨#[slB x]⟩])) (hgrow : (wr.alloc (.cells #[.string ⟨#[slB x]⟩] 9)).grownBy w7 (Value.slice (some ⟨g, 0, none⟩) (j + 1) cp).ownBlock) (hw1 : w.heap.size < w1.heap.size) (hrd : n = 0 ∨ ∀ b off, pa = some ⟨b, off, none⟩ → b < w1.heap.size) : DjI w w1 B4 k to a b pa n cap f (j + 1) (.slice (some ⟨g1, 0, none⟩) (j + 1 + 1) cap1) w7 := by
  obtain ⟨ho, hb, hr, hc, h4⟩ := h
  have hlt := owt_len ho
  obtain ⟨cur, hrow⟩ := owt_row ho
  have hob : ∀ q, (Value.slice (some ⟨g, 0, none⟩) (j + 1) cp).ownBlock = some q → q = g := fun q e => by simpa [Value.ownBlock] using e.symm
  have hb1 := bel_one wr (.cells #[.string ⟨#[slB x]⟩] 9)
  have hB4 : B4 < wr.heap.size := (Array.getElem?_eq_some_iff.1 h4).1
  have hne : B4 ≠ g := fun e => by
    rw [e, hrow] at h4
    have := congrArg (fun o => match o with | some (Obj.cells _ t _) => t | _ => 0) h4
    have q : (9 : Nat) = 88 := this
    exact absurd q (by decide)
  refine ⟨?_, ?_, ?_, ?_, ?_⟩
  · show World.ownsRow _ _ _ _ _ _ _
    rw [hws, stL_app, List.length_append, wdJ_len k to a b (by omega)]
    exact hown
  · exact (bel_next hb hb1).grown hgrow (by simp; omega) (fun q e => by rw [hob q e]; omega)
  · exact (hr.below hb1).grown hgrow (hrd.imp id (fun hh b off e => by
      intro q
      have := hob b q.symm
      have := hh b off e
      omega))
  · intro i hi
    have e : w7.heap[w.heap.size]? = wr.heap[w.heap.size]? := (hgrow.block _ (by simp; omega) (fun e => by have := hob _ e.symm; omega)).trans (hb1.block _ hs0)
    rw [← hc i hi]
    exact World.cell?_of_block (w := wr) (a := ⟨w.heap.size, i, none⟩) e
  · exact ((hgrow.block _ (by simp; omega) (fun e => hne (hob _ e.symm))).trans (hb1.block _ hB4)).trans h4
set_option maxRecDepth 100000 in
set_option maxHeartbeats 8000000 in
theorem dskTextI (k to a b : Int) (pa : Option Addr) (n cap : Nat) (f : Nat → T) (w : World) (h : Rd w pa n cap f) (hT : Tb w) (hD : Dw w) :
    Calls Tryz.prog 32 #[.agg #[.int .i64 k, .int .i64 to, .int .i64 a, .int .i64 b, .slice pa n cap]] w fun r w' => r = .returned (.string ⟨(lnT k to a b n f).toArray⟩) ∧ Below w.heap.size w w' := by
  have hB0 := bel_one w (.cells #[.int .i64 k, .int .i64 to, .int .i64 a, .int .i64 b, .slice pa n cap] 24)
  have hnI : (n : Int) ≤ 9223372036854775807 := by have := h.2.1; omega
  have HRD := Hid.mk' (h.below hB0)
  have hund : n = 0 ∨ ∀ b off, pa = some ⟨b, off, none⟩ → b < w.heap.size := by
    rcases h.2.2 with q | ⟨b', off', e, q, _⟩
    · exact .inl q
    · exact .inr (fun b off e2 => by rw [e] at e2; cases e2; exact q)
  have HUN0 := Hid.mk' hund
  have HTB := Hid.mk' hT
  have HDW := Hid.mk' hD
  have HB0 := Hid.mk' hB0
  have hx : ∀ j : Nat, (w.alloc (.cells #[.int .i64 k, .int .i64 to, .int .i64 a, .int .i64 b, .slice pa n cap] 24)).cell? ⟨w.heap.size, j, none⟩ = #[Value.int .i64 k, .int .i64 to, .int .i64 a, .int .i64 b, .slice pa n cap][j]? := fun j => World.cell?_alloc_at _ _ _ _ rfl
  have HX := Hid.mk' hx
  have HWC := Hid.mk' (dskWholeI k to a b pa n cap f _ HRD.out)
  obtain ⟨wh, hwh⟩ : ∃ x, whl k to a b n f = x := ⟨_, rfl⟩
  rw [hwh] at HWC
  obtain ⟨R, hR⟩ : ∃ R, lnT k to a b n f = R := ⟨_, rfl⟩
  rw [hR]
  have HWH := Hid.mk' hwh
  have HR := Hid.mk' hR
  clear hB0 h hx hT hD hwh hR hund
  cases wh
  · have HZ : Hid (R = []) := by rw [← HR.out]; exact Hid.mk' (lnT_no HWH.out)
    go_enter Tryz.func32, Tryz.ntmps32
    go_wp2_with fail
    refine HWC.out.mono ?_
    rintro r w1 ⟨rfl, hb1⟩
    have HB1 := Hid.mk' (bel_next HB0.out hb1)
    clear hb1
    go_wp2
    go_ret
    exact ⟨by rw [HZ.out]; rfl, HB1.out⟩
  · obtain ⟨⟨k1, k8⟩, ⟨t0, t5⟩, ⟨a0, a5⟩, ⟨b0, b5⟩, hok⟩ := whl_parts HWH.out
    obtain ⟨K, rfl⟩ : ∃ K : Nat, k = (K : Int) := ⟨k.toNat, by omega⟩
    have hK1 : 1 ≤ K := by omega
    have hK8 : K ≤ 8 := by omega
    have hKI : (K : Int) < 9 := by omega
    obtain ⟨N, hN⟩ : ∃ N, nmd (K : Int) = N := ⟨_, rfl⟩
    have hNb := nmd_bd (k := (K : Int)) ⟨k1, k8⟩
    rw [hN] at hNb
    obtain ⟨hN1, hN3⟩ := hNb
    have hNI : (N : Int) ≤ 3 := by omega
    have HNN := Hid.mk' hN
    have HSV : Hid (∀ j, j < 3 → 0 ≤ sv to a b j ∧ sv to a b j ≤ 5) := Hid.mk' (fun j hj => by
      unfold sv
      split
      · exact ⟨t0, t5⟩
      · split
        · exact ⟨a0, a5⟩
        · exact ⟨b0, b5⟩)
    have HPB := Hid.mk' (polT_bd hok)
    obtain ⟨i0, hi0, hz0, hz1, hz2⟩ := info_parts infoSt
    clear hN hok t0 t5 a0 a5 b0 b5
    go_enter Tryz.func32, Tryz.ntmps32
    go_wp2_with fail
    refine HWC.out.mono ?_
    rintro r w1 ⟨rfl, hb1⟩
    have hlt1 : w.heap.size < w1.heap.size := Nat.lt_of_lt_of_le (by simp) hb1.size
    have hcc : ∀ j : Nat, w1.cell? ⟨w.heap.size, j, none⟩ = #[Value.int .i64 (K : Int), .int .i64 to, .int .i64 a, .int .i64 b, .slice pa n cap][j]? := fun j => (hb1.cell (p := ⟨w.heap.size, j, none⟩) (by simp)).trans (HX.out j)
    have HUND : Hid (n = 0 ∨ ∀ b off, pa = some ⟨b, off, none⟩ → b < w1.heap.size) := Hid.mk' (HUN0.out.imp id (fun hh b off e => by have := hh b off e; omega))
    have HB1 := Hid.mk' (bel_next HB0.out hb1)
    have HRD1 := Hid.mk' (HRD.out.below hb1)
    have hdw := (HDW.out.below HB1.out) K hK1 hK8
    have l0 := hcc 0
    have l1 := hcc 1
    have l2 := hcc 2
    have l3 := hcc 3
    have l4 := hcc 4
    simp at l0 l1 l2 l3 l4
    have HCC := Hid.mk' hcc
    clear hb1 hcc HX HWC HRD HB0
    go_wp2_with fail
    have hO1 : OwT w1.heap.size (.slice (some ⟨w1.heap.size, 0, none⟩) 1 1) (wdJ (K : Int) to a b 0) (w1.alloc (.cells #[.string ⟨(nam (K : Int)).toArray⟩] 9)) := World.ownsRow_lit _ _ _ (Nat.le_refl _) (by unfold maxLen; omega) rfl
    have hbb1 := bel_one w1 (.cells #[.string ⟨(nam (K : Int)).toArray⟩] 9)
    have HO1 := Hid.mk' hO1
    have HBB1 := Hid.mk' hbb1
    clear hO1 hbb1 l0 l1 l2 l3 l4 hdw
    refine (slotsI (K : Int) to a b pa n cap _).mono ?_
    rintro r w2 ⟨rfl, hb2⟩
    have hb2' := bel_next HBB1.out hb2
    have HB2 := Hid.mk' (bel_next HB1.out hb2')
    have HO2 := Hid.mk' (owns_below HO1.out hb2)
    have HRD2 := Hid.mk' (HRD1.out.below hb2')
    have hs2 : w1.heap.size < w2.heap.size := Nat.lt_of_lt_of_le (by simp) hb2.size
    have hcc : ∀ j : Nat, w2.cell? ⟨w.heap.size, j, none⟩ = #[Value.int .i64 (K : Int), .int .i64 to, .int .i64 a, .int .i64 b, .slice pa n cap][j]? := fun j => (hb2'.cell (p := ⟨w.heap.size, j, none⟩) hlt1).trans (HCC.out j)
    have HCC2 := Hid.mk' hcc
    have l0 := hcc 0
    simp at l0
    have HNM := Hid.mk' (namedI (K : Int))
    rw [HNN.out] at HNM
    clear hb2 hb2' hcc HO1 HRD1 HCC HBB1
    have hba := bel_one w2 (.cells #[.int .i64 to, .int .i64 a, .int .i64 b] 88)
    have HBA := Hid.mk' hba
    have HB3 := Hid.mk' (bel_next HB2.out hba)
    have HO3 := Hid.mk' (owns_below HO2.out hba)
    have HRD3 := Hid.mk' (HRD2.out.below hba)
    have hlt2 : w.heap.size < w2.heap.size := by omega
    have hne2 : w.heap.size ≠ w2.heap.size := by omega
    have hc3 : ∀ j : Nat, (w2.alloc (.cells #[.int .i64 to, .int .i64 a, .int .i64 b] 88)).cell? ⟨w.heap.size, j, none⟩ = #[Value.int .i64 (K : Int), .int .i64 to, .int .i64 a, .int .i64 b, .slice pa n cap][j]? := fun j => (hba.cell (p := ⟨w.heap.size, j, none⟩) hlt2).trans (HCC2.out j)
    have hv3 : ∀ j : Nat, j < 3 → (w2.alloc (.cells #[.int .i64 to, .int .i64 a, .int .i64 b] 88)).cell? ⟨w2.heap.size, j, none⟩ = some (.int .i64 (sv to a b j)) := fun j hj => by
      rw [World.cell?_alloc_at _ _ _ _ rfl]
      rcases (show j = 0 ∨ j = 1 ∨ j = 2 by omega) with rfl | rfl | rfl <;> rfl
    have HC3 := Hid.mk' hc3
    have HH4 := Hid.mk' (heap_alloc_new w2 (.cells #[.int .i64 to, .int .i64 a, .int .i64 b] 88))
    clear hba hc3 hv3
    go_wp2_with fail
    refine (HNM.out _).mono ?_
    rintro r w' ⟨rfl, hw'⟩
    obtain rfl := hw'.symm
    clear hw' l0
    go_wp2
    obtain ⟨W3, hW3⟩ : ∃ W, w2.alloc (.cells #[.int .i64 to, .int .i64 a, .int .i64 b] 88) = W := ⟨_, rfl⟩
    obtain ⟨B4, hB4⟩ : ∃ B, B = w2.heap.size := ⟨_, rfl⟩
    rw [hW3] at HB3 HO3 HRD3 HC3 HH4 ⊢
    rw [← hB4] at HH4 ⊢
    have hB4lt : B4 < W3.heap.size := by rw [← hW3, hB4]; simp
    have hwlt : w.heap.size < W3.heap.size := by rw [← hW3]; simp; omega
    have hwB : w.heap.size ≤ B4 := by omega
    have HBA2 : Hid (Below w2.heap.size w2 W3) := by rw [← hW3]; exact HBA
    clear hW3 HBA HB2 HO2 HRD2 HCC2 hne2 hlt2 hB4 HBA2
    have H4 : Hid (W3.heap[B4]? = some (.cells #[.int .i64 to, .int .i64 a, .int .i64 b] 88 (0, 0))) := HH4
    go_loopw [23, 3] (fun v23 v3 wr => ∃ (j g cp : Nat), j ≤ N ∧ v23 = .int .i64 (j : Int) ∧ v3 = .slice (some ⟨g, 0, none⟩) (j + 1) cp ∧ Hid (DjI w w1 B4 (K : Int) to a b pa n cap f j (.slice (some ⟨g, 0, none⟩) (j + 1) cp) wr)) (fun v23 _ _ => N - (intOf v23).toNat)
    case atStart => exact ⟨0, _, _, by omega, rfl, rfl, Hid.mk' ⟨HO3.out, HB3.out, HRD3.out, fun i _ => HC3.out i, H4.out⟩⟩
    case round =>
      obtain ⟨j, g, cp, hj, rfl, rfl, HI⟩ := hrel
      have hs0 : w.heap.size < wr.heap.size := World.block_lt_of_cell? _ _ (HI.out.2.2.2.1 0 (by omega))
      have hs1 : w1.heap.size ≤ wr.heap.size := by
        have := (owt_len HI.out.1).2
        omega
      by_cases hjN : j < N
      · have hjI : (j : Int) < (N : Int) := by omega
        obtain ⟨x0, x5⟩ := HSV.out j (by omega)
        have c4 := dj_cell HI.out.2.2.2.2 (show j < 3 by omega)
        obtain ⟨x, hx⟩ : ∃ x, sv to a b j = x := ⟨_, rfl⟩
        have HWS := Hid.mk' (wdJ_succ (K : Int) to a b (show j < 3 by omega))
        rw [hx] at x0 x5 c4 HWS
        clear hx
        have hsl := fun u => letS x0 x5 u
        have hw : IntKind.i64.wrap (x + 1) = x + 1 := by rw [IntKind.wrap_i64]; omega
        have hmax : j + 1 + 1 ≤ maxLen := by unfold maxLen; omega
        have hO4 := HI.out.1.alloc (.cells #[.string ⟨#[slB x]⟩] 9)
        rw [wdJ_len (K : Int) to a b (show j ≤ 3 by omega)] at hO4
        have HO4 := Hid.mk' hO4
        have HN := Hid.mk' (heap_alloc_new wr (.cells #[.string ⟨#[slB x]⟩] 9))
        have HST := Hid.mk' (fun g1 cap1 w7 hown hgrow => DjI.next (x := x) HI.out (show j < 3 by omega) hs0 hs1 HWS.out (w7 := w7) (g1 := g1) (cap1 := cap1) hown hgrow hlt1 HUND.out)
        clear hO4 HI
        go_wp2_with (at_builtin; refine wpList_append_lies _ rfl (.tmp 27) (.tmp 32) 46 rfl w1.heap.size 9 i0 _ 1 16 Tryz.underlying46 hi0 hz0 hz1 hz2 rfl (by omega) _ (j + 1) (stL (wdJ (K : Int) to a b j)) rfl HO4.out ⟨wr.heap.size, 0, none⟩ 1 1 [.string ⟨#[slB x]⟩] rfl rfl (World.news_of_block HN.out) (one_st _) (by omega) hmax (by omega) (by simp; omega) _ rfl ?_; intro g1 cap1 w7 hown2 hgrow2 hat2 hlt2; have HP := Hid.mk' (HST.out g1 cap1 w7 hown2 hgrow2); clear hown2 hgrow2 hat2 hlt2)
        go_roundw
        case rel => exact ⟨j + 1, g1, cap1, by omega, by go_num, rfl, HP⟩
        case measure => simp [intOf]; omega
      · have hje : j = N := by omega
        subst hje
        have hnl : ¬ (j : Int) < (j : Int) := by omega
        have l0 := HI.out.2.2.2.1 0 (by omega)
        have l4 := HI.out.2.2.2.1 4 (by omega)
        simp at l0 l4
        have HWD := Hid.mk' (wdsL_is (K : Int) to a b n f)
        rw [HNN.out] at HWD
        have HLEN := Hid.mk' (wdJ_len (K : Int) to a b (show j ≤ 3 by omega))
        have HJB := Hid.mk' (join_bd (K : Int) to a b j (by omega))
        by_cases hk1 : K = 1
        · have hk1b : ((K : Int) == 1) = true := by simp [hk1]
          obtain ⟨PT, hPT⟩ : ∃ S, polT n f = S := ⟨_, rfl⟩
          have HTX := Hid.mk' (polTextI wr pa n cap f HI.out.2.2.1 (HTB.out.below HI.out.2.1))
          rw [hPT] at HTX HPB
          have HRAW : Hid (rawL (K : Int) to a b n f = Lib.join (wdJ (K : Int) to a b j ++ [PT]) [32]) := by
            unfold rawL
            rw [HWD.out, if_pos (by rw [hk1]; rfl), hPT]
            exact Hid.mk' rfl
          have hmax : j + 1 + 1 ≤ maxLen := by unfold maxLen; omega
          clear hPT hk1 HWD
          go_wp2_with fail
          refine HTX.out.mono ?_
          rintro r w4 ⟨rfl, hb4⟩
          have hO4 := (owns_below HI.out.1 hb4).alloc (.cells #[.string ⟨PT.toArray⟩] 9)
          rw [HLEN.out] at hO4
          have HO4 := Hid.mk' hO4
          have HB4' := Hid.mk' (bel_a' (bel_next HI.out.2.1 hb4) (.cells #[.string ⟨PT.toArray⟩] 9))
          have HN := Hid.mk' (heap_alloc_new w4 (.cells #[.string ⟨PT.toArray⟩] 9))
          have hs4 : w1.heap.size ≤ w4.heap.size := Nat.le_trans hs1 hb4.size
          have hw1 : w.heap.size ≤ w1.heap.size := by omega
          clear hO4 hb4 HTX HI l0 l4
          go_wp2_with (at_builtin; refine wpList_append_lies _ rfl (.tmp 38) (.tmp 42) 46 rfl w1.heap.size 9 i0 _ 1 16 Tryz.underlying46 hi0 hz0 hz1 hz2 rfl (by omega) _ (j + 1) (stL (wdJ (K : Int) to a b j)) rfl HO4.out ⟨w4.heap.size, 0, none⟩ 1 1 [.string ⟨PT.toArray⟩] rfl rfl (World.news_of_block HN.out) (one_st _) (by omega) hmax (by omega) (by simp; omega) _ rfl ?_; intro g1 cap1 w7 hown2 hgrow2 hat2 hlt2; have HO7 := Hid.mk' hown2; have HB7 := Hid.mk' (HB4'.out.grown hgrow2 (by simp; omega) (fun k' e' => Nat.le_trans hw1 (HO4.out.lt k' e').1)); clear hown2 hgrow2 hat2 hlt2)
          have hO7 : OwT w1.heap.size (.slice (some ⟨g1, 0, none⟩) (j + 1 + 1) cap1) (wdJ (K : Int) to a b j ++ [PT]) w7 := by
            have := HO7.out
            show World.ownsRow _ _ _ _ _ _ _
            rw [stL_app, List.length_append, HLEN.out]
            exact this
          have hlenw : (wdJ (K : Int) to a b j ++ [PT]).length = j + 1 + 1 := by rw [List.length_append, HLEN.out]; rfl
          have hJ := joinG g1 cap1 (wdJ (K : Int) to a b j ++ [PT]) w7 (fun i l hl => owt_cell hO7 hl) (owt_len hO7).2.2 (by omega) (by
            rw [hlenw]
            exact owt_cap hO7) (by
            have h1 := join_app (wdJ (K : Int) to a b j) PT
            have h2 := HJB.out
            have h3 := HPB.out
            omega)
          rw [hlenw, ← HRAW.out] at hJ
          have HJ := Hid.mk' hJ
          clear hJ hO7 hlenw
          obtain ⟨S, hS⟩ : ∃ S, rawL (K : Int) to a b n f = S := ⟨_, rfl⟩
          have hSl : S.length ≤ 10000 := by
            rw [← hS, HRAW.out]
            have h2 := HJB.out
            first | omega | (have h1 := join_app (wdJ (K : Int) to a b j) PT; have h3 := HPB.out; omega)
          have HS := Hid.mk' hS
          rw [hS] at HJ
          clear hS HRAW
          go_wp2_with fail
          refine HJ.out.mono ?_
          rintro r w9 ⟨rfl, hb9⟩
          have HB9 := Hid.mk' (bel_next HB7.out hb9)
          clear hb9 HJ
          by_cases h4 : S.length ≤ 400
          · have h4I : ¬ (400 : Int) < (S.length : Int) := by omega
            have HZ : Hid (R = S) := by rw [← HR.out, lnT_is HWH.out (by rw [HS.out]; exact h4), HS.out]; exact Hid.mk' rfl
            go_wp2
            go_ret
            exact ⟨by rw [HZ.out]; rfl, HB9.out⟩
          · have h4I : (400 : Int) < (S.length : Int) := by omega
            have HZ : Hid (R = []) := by rw [← HR.out, lnT_long (by rw [HS.out]; exact h4)]; exact Hid.mk' rfl
            go_wp2
            go_ret
            exact ⟨by rw [HZ.out]; rfl, HB9.out⟩
        · have hk1b : ((K : Int) == 1) = false := by simp; omega
          have HRAW : Hid (rawL (K : Int) to a b n f = Lib.join (wdJ (K : Int) to a b j) [32]) := by
            unfold rawL
            rw [HWD.out, if_neg (by omega), List.append_nil]
            exact Hid.mk' rfl
          have hJ := joinG g cp (wdJ (K : Int) to a b j) wr (fun i l hl => owt_cell HI.out.1 hl) (owt_len HI.out.1).2.2 (by rw [HLEN.out]; omega) (by rw [HLEN.out]; exact owt_cap HI.out.1) (by have h2 := HJB.out; omega)
          rw [HLEN.out, ← HRAW.out] at hJ
          have HJ := Hid.mk' hJ
          have HB7 := Hid.mk' HI.out.2.1
          clear hJ hk1 HWD
          obtain ⟨S, hS⟩ : ∃ S, rawL (K : Int) to a b n f = S := ⟨_, rfl⟩
          have hSl : S.length ≤ 10000 := by
            rw [← hS, HRAW.out]
            have h2 := HJB.out
            first | omega | (have h1 := join_app (wdJ (K : Int) to a b j) PT; have h3 := HPB.out; omega)
          have HS := Hid.mk' hS
          rw [hS] at HJ
          clear hS HRAW
          go_wp2_with fail
          refine HJ.out.mono ?_
          rintro r w9 ⟨rfl, hb9⟩
          have HB9 := Hid.mk' (bel_next HB7.out hb9)
          clear hb9 HJ
          by_cases h4 : S.length ≤ 400
          · have h4I : ¬ (400 : Int) < (S.length : Int) := by omega
            have HZ : Hid (R = S) := by rw [← HR.out, lnT_is HWH.out (by rw [HS.out]; exact h4), HS.out]; exact Hid.mk' rfl
            go_wp2
            go_ret
            exact ⟨by rw [HZ.out]; rfl, HB9.out⟩
          · have h4I : (400 : Int) < (S.length : Int) := by omega
            have HZ : Hid (R = []) := by rw [← HR.out, lnT_long (by rw [HS.out]; exact h4)]; exact Hid.mk' rfl
            go_wp2
            go_ret
            exact ⟨by rw [HZ.out]; rfl, HB9.out⟩
end Go.Proofs.YtoglomfejgpoeaaGreatDoor
namespace Go.Proofs.YtoglomfejgpoeaaGreatDoor
open Go.RowKit Go.Deep Go.Joins Go.WideShapes Go.ChangeShapes
set_option linter.unusedVariables false
set_option linter.unusedSimpArgs false
set_option maxRecDepth 100000 in
theorem line_open {H : Type} {enc : TypeId × Value → H} {w : World} {base : Nat} {spare : Nat → Bool} {held : Bool} {r : Reach} {b0 : Nat} {v : Value} {d : DataW H} {p : List MemPlace}
    (hv : Value.okWide Tryz.prog w r b0 33 v) (h : DataW.Trod enc Tryz.prog w base spare held 33 v d p) :
    ∃ (k to a b : Int) (pa : Option Addr) (n cap : Nat) (f : Nat → T), v = .agg #[.int .i64 k, .int .i64 to, .int .i64 a, .int .i64 b, .slice pa n cap] ∧ IsTerms w pa n cap f := by
  have hs := Tryz.underlying33
  obtain ⟨cs, rfl, hsz⟩ := okWide_struct hs hv
  have hC : Tryz.prog.cellsOf 33 = 5 := by kernel_rfl
  rw [hC] at hsz
  obtain ⟨c0, c1, c2, c3, c4, rfl⟩ : ∃ c0 c1 c2 c3 c4, cs = #[c0, c1, c2, c3, c4] := by
    obtain ⟨l⟩ := cs
    match l, hsz with
    | [c0, c1, c2, c3, c4], _ => exact ⟨c0, c1, c2, c3, c4, rfl⟩
  obtain ⟨fuel, hf⟩ := h
  obtain ⟨xs, m, _, hx, hl, hlen, hg⟩ := DataW.trod_struct hs hf
  match xs, hlen with
  | [y0, y1, y2, y3, y4], _ =>
    have g0 := hg 0 _ rfl
    have g1 := hg 1 _ rfl
    have g2 := hg 2 _ rfl
    have g3 := hg 3 _ rfl
    have g4 := hg 4 _ rfl
    have cI : Tryz.prog.cellsOf 3 = 1 := by kernel_rfl
    have cS : Tryz.prog.cellsOf 31 = 1 := by kernel_rfl
    simp [Value.cells, cI, cS] at g0 g1 g2 g3 g4
    obtain ⟨z0, e0, _, _⟩ := DataW.trod_int Tryz.underlying3 g0
    obtain ⟨z1, e1, _, _⟩ := DataW.trod_int Tryz.underlying3 g1
    obtain ⟨z2, e2, _, _⟩ := DataW.trod_int Tryz.underlying3 g2
    obtain ⟨z3, e3, _, _⟩ := DataW.trod_int Tryz.underlying3 g3
    simp at e0 e1 e2 e3
    subst e0 e1 e2 e3
    have g4' := g4
    rcases open_slice Tryz.underlying31 g4 with ⟨hc, _⟩ | ⟨ad, len, cp, m', k', D, Pl, hc, _⟩
    · simp at hc
      subst hc
      obtain ⟨f, hf⟩ := terms_open g4'
      exact ⟨z0, z1, z2, z3, none, 0, 0, f, rfl, hf⟩
    · simp at hc
      subst hc
      obtain ⟨f, hf⟩ := terms_open g4'
      exact ⟨z0, z1, z2, z3, some ad, len, cp, f, rfl, hf⟩
theorem cells5 {W : World} {b : Nat} {c0 c1 c2 c3 c4 : Value} {t : TypeId} (h : W.heap[b]? = some (.cells #[c0, c1, c2, c3, c4] t (0, 0))) : (W.cell? ⟨b, 0, none⟩ = some c0 ∧ W.cell? ⟨b, 1, none⟩ = some c1 ∧ W.cell? ⟨b, 2, none⟩ = some c2 ∧ W.cell? ⟨b, 3, none⟩ = some c3 ∧ W.cell? ⟨b, 4, none⟩ = some c4) ∧ ∀ j, W.frozen? ⟨b, j, none⟩ = false :=
  ⟨⟨cell_of_row W b 0 _ _ _ h, cell_of_row W b 1 _ _ _ h, cell_of_row W b 2 _ _ _ h, cell_of_row W b 3 _ _ _ h, cell_of_row W b 4 _ _ _ h⟩, fun j => by simp [World.frozen?, h]⟩
set_option maxRecDepth 100000 in
set_option maxHeartbeats 2000000 in
theorem toLine (k to a b : Int) (pa : Option Addr) (n cap : Nat) (f : Nat → T) (w : World) (h : Rd w pa n cap f) :
    Calls Tryz.prog 17 #[.agg #[.int .i64 k, .int .i64 to, .int .i64 a, .int .i64 b, .slice pa n cap]] w fun r w' => ∃ g, r = .returned (.agg #[.int .i64 k, .int .i64 to, .int .i64 a, .int .i64 b, .slice (some ⟨g, 0, none⟩) n n]) ∧ Below w.heap.size w w' ∧ Own w' g n f := by
  have HH := Hid.mk' h
  clear h
  go_enter Tryz.func17, Tryz.ntmps17
  go_wp2_with fail
  have hbX := bel_three w (.cells #[.int .i64 k, .int .i64 to, .int .i64 a, .int .i64 b, .slice pa n cap] 33) (.cells #[.int .i64 0, .int .i64 0, .int .i64 0, .int .i64 0, .slice none 0 0] 24) (.cells #[.int .i64 k, .int .i64 to, .int .i64 a, .int .i64 b, .slice none 0 0] 24)
  have h2X : (((w.alloc (.cells #[.int .i64 k, .int .i64 to, .int .i64 a, .int .i64 b, .slice pa n cap] 33)).alloc (.cells #[.int .i64 0, .int .i64 0, .int .i64 0, .int .i64 0, .slice none 0 0] 24)).alloc (.cells #[.int .i64 k, .int .i64 to, .int .i64 a, .int .i64 b, .slice none 0 0] 24)).heap[w.heap.size + 1]? = some (.cells #[.int .i64 0, .int .i64 0, .int .i64 0, .int .i64 0, .slice none 0 0] 24 (0, 0)) := by
    rw [Below.heap_alloc _ _ _ (by simp)]
    have := heap_alloc_new (w.alloc (.cells #[.int .i64 k, .int .i64 to, .int .i64 a, .int .i64 b, .slice pa n cap] 33)) (.cells #[.int .i64 0, .int .i64 0, .int .i64 0, .int .i64 0, .slice none 0 0] 24)
    rwa [World.size_alloc] at this
  have h3X : (((w.alloc (.cells #[.int .i64 k, .int .i64 to, .int .i64 a, .int .i64 b, .slice pa n cap] 33)).alloc (.cells #[.int .i64 0, .int .i64 0, .int .i64 0, .int .i64 0, .slice none 0 0] 24)).alloc (.cells #[.int .i64 k, .int .i64 to, .int .i64 a, .int .i64 b, .slice none 0 0] 24)).heap[w.heap.size + 1 + 1]? = some (.cells #[.int .i64 k, .int .i64 to, .int .i64 a, .int .i64 b, .slice none 0 0] 24 (0, 0)) := by
    have := heap_alloc_new ((w.alloc (.cells #[.int .i64 k, .int .i64 to, .int .i64 a, .int .i64 b, .slice pa n cap] 33)).alloc (.cells #[.int .i64 0, .int .i64 0, .int .i64 0, .int .i64 0, .slice none 0 0] 24)) (.cells #[.int .i64 k, .int .i64 to, .int .i64 a, .int .i64 b, .slice none 0 0] 24)
    rwa [World.size_alloc, World.size_alloc] at this
  have hsX : (((w.alloc (.cells #[.int .i64 k, .int .i64 to, .int .i64 a, .int .i64 b, .slice pa n cap] 33)).alloc (.cells #[.int .i64 0, .int .i64 0, .int .i64 0, .int .i64 0, .slice none 0 0] 24)).alloc (.cells #[.int .i64 k, .int .i64 to, .int .i64 a, .int .i64 b, .slice none 0 0] 24)).heap.size = w.heap.size + 3 := by simp
  generalize (((w.alloc (.cells #[.int .i64 k, .int .i64 to, .int .i64 a, .int .i64 b, .slice pa n cap] 33)).alloc (.cells #[.int .i64 0, .int .i64 0, .int .i64 0, .int .i64 0, .slice none 0 0] 24)).alloc (.cells #[.int .i64 k, .int .i64 to, .int .i64 a, .int .i64 b, .slice none 0 0] 24)) = X at hbX h2X h3X hsX ⊢
  refine (toTerms _ _ _ _ f (HH.out.below hbX)).mono ?_
  rintro e w1 ⟨rfl, hb, ho⟩
  obtain ⟨g, hg⟩ : ∃ g, X.heap.size = g := ⟨_, rfl⟩
  have hgl : w.heap.size + 3 ≤ g := by omega
  rw [hg] at ho ⊢
  obtain ⟨⟨r0, r1, r2, r3, r4⟩, rz⟩ := cells5 ((hb.block _ (by omega)).trans h2X)
  obtain ⟨⟨x0, x1, x2, x3, x4⟩, xz⟩ := cells5 ((hb.block _ (by omega)).trans h3X)
  have HB := Hid.mk' (bel_next hbX hb)
  have HO := Hid.mk' ho
  have hn1 : w.heap.size + 1 ≠ w.heap.size + 1 + 1 := by omega
  have hn2 : w.heap.size + 1 + 1 ≠ w.heap.size + 1 := by omega
  have hg1 : g ≠ w.heap.size + 1 := by omega
  have hg2 : g ≠ w.heap.size + 1 + 1 := by omega
  clear hb ho hbX h2X h3X hsX hg
  go_wp2
  refine bodyPost_ret (v := .agg #[.int .i64 k, .int .i64 to, .int .i64 a, .int .i64 b, .slice (some ⟨g, 0, none⟩) n n]) (by simp [results, Tryz.results17, go_sem, *]) rfl ?_
  refine ⟨g, rfl, ?_, ?_⟩
  · first
      | exact bel_s5 (HB.out.setCell (p := ⟨w.heap.size + 1 + 1, 4, none⟩) (by show w.heap.size ≤ w.heap.size + 1 + 1; omega) _) (by omega) _ _ _ _ _
      | exact (bel_s5 HB.out (by omega) _ _ _ _ _).setCell (p := ⟨w.heap.size + 1 + 1, 4, none⟩) (by show w.heap.size ≤ w.heap.size + 1 + 1; omega) _
  · refine HO.out.of_block ?_
    repeat (first | rw [Below.heap_setCell _ _ _ _ hg1] | rw [Below.heap_setCell _ _ _ _ hg2])
set_option maxHeartbeats 1000000 in
theorem szLine (k to a b : Int) (pa : Option Addr) (n cap : Nat) (l : Int) (w : World) (hn : (n : Int) ≤ 9223372036854775807) (hl : 0 ≤ l) (hl' : l ≤ 1048576) :
    Calls Tryz.prog 14 #[.agg #[.int .i64 k, .int .i64 to, .int .i64 a, .int .i64 b, .slice pa n cap], .int .i64 l] w fun r w' => r = .returned (.int .i64 (if l - n < 0 then -1 else l - n)) ∧ Below w.heap.size w w' := by
  have hb0 := bel_one w (.cells #[.int .i64 k, .int .i64 to, .int .i64 a, .int .i64 b, .slice pa n cap] 33)
  have HB0 := Hid.mk' hb0
  clear hb0
  by_cases h : l - n < 0
  · go_enter Tryz.func14, Tryz.ntmps14
    go_wp2_with fail
    refine (szTerms _ _ _ _ _ hn hl hl').mono ?_
    rw [if_pos h]
    rintro e w' ⟨rfl, hw'⟩
    obtain rfl := hw'.symm
    clear hw'
    go_wp2
    go_ret
    exact ⟨by first | rfl | (rw [if_pos h]; rfl), HB0.out⟩
  · have h1 : ¬ (l - n < 0) := h
    go_enter Tryz.func14, Tryz.ntmps14
    go_wp2_with fail
    refine (szTerms _ _ _ _ _ hn hl hl').mono ?_
    rw [if_neg (by omega)]
    rintro e w' ⟨rfl, hw'⟩
    obtain rfl := hw'.symm
    clear hw'
    go_wp2
    go_ret
    exact ⟨by first | rfl | (rw [if_neg (by omega)]; rfl), HB0.out⟩
set_option maxRecDepth 100000 in
set_option maxHeartbeats 2000000 in
theorem eqLine (k to a b : Int) (pa pa' : Option Addr) (n cap cap' : Nat) (f : Nat → T) (w : World) (h : Rd w pa n cap f) (h' : Rd w pa' n cap' f) :
    Calls Tryz.prog 10 #[.agg #[.int .i64 k, .int .i64 to, .int .i64 a, .int .i64 b, .slice pa n cap], .agg #[.int .i64 k, .int .i64 to, .int .i64 a, .int .i64 b, .slice pa' n cap']] w fun r w' => r = .returned (.bool true) ∧ Below w.heap.size w w' := by
  have hb0 := bel_two w (.cells #[.int .i64 k, .int .i64 to, .int .i64 a, .int .i64 b, .slice pa n cap] 24) (.cells #[.int .i64 k, .int .i64 to, .int .i64 a, .int .i64 b, .slice pa' n cap'] 24)
  have HC := Hid.mk' (eqTerms _ _ _ _ _ _ _ _ _ (h.below hb0) (h'.below hb0))
  rw [termsEq_same] at HC
  have HB0 := Hid.mk' hb0
  clear hb0 h h'
  go_enter Tryz.func10, Tryz.ntmps10
  go_wp2_with fail
  refine HC.out.mono ?_
  rintro r w1 ⟨rfl, hb1⟩
  have HB1 := Hid.mk' (bel_next HB0.out hb1)
  clear hb1
  go_wp2
  go_ret
  exact ⟨rfl, HB1.out⟩
end Go.Proofs.YtoglomfejgpoeaaGreatDoor
namespace Go.Proofs.YtoglomfejgpoeaaGreatDoor
open Go.RowKit
set_option linter.unusedVariables false
set_option linter.unusedSimpArgs false
theorem wordsNamed : Tryz.prog.globalNamed "loop.example/selvedge/impl.dskWords" = some 0 := by kernel_rfl
theorem wordsType : (Tryz.prog.globals[0]?).map (·.type) = some 87 := by kernel_rfl
def wordsA : Array Value := #[.string ⟨#[]⟩, .string ⟨#[115, 101, 116]⟩, .string ⟨#[97, 100, 100]⟩, .string ⟨#[109, 117, 108]⟩, .string ⟨#[97, 112, 97, 114, 116]⟩, .string ⟨#[100, 111]⟩, .string ⟨#[114, 111, 117, 110, 100]⟩, .string ⟨#[98, 97, 99, 107]⟩, .string ⟨#[115, 104, 111, 119]⟩]
set_option maxRecDepth 100000 in
/-- an array of texts that reads so holds these texts. -/
theorem words_cells {H : Type} {enc : TypeId × Value → H} {w : World} {base : Nat} {sp : Nat → Bool} {held : Bool} {fuel : Nat} {cs : List Value} {p : List MemPlace}
    (h : DataW.trod enc Tryz.prog w base sp held fuel 87 cs = some (Rows.laid_loop_example_selvedge_impl_dskWords, p)) : cs = wordsA.toList := by
  obtain ⟨xs, m, hk, hx, hl, hlen, hf⟩ := DataW.trod_array Tryz.underlying87 h
  have hc9 : Tryz.prog.cellsOf 87 = 9 := by kernel_rfl
  have hc1 : Tryz.prog.cellsOf 9 = 1 := by kernel_rfl
  rw [hc9] at hl
  simp only [hc1, Nat.mul_one] at hf
  have hm : xs.map (·.1) = [.lit (.string []), .lit (.string [115, 101, 116]), .lit (.string [97, 100, 100]), .lit (.string [109, 117, 108]), .lit (.string [97, 112, 97, 114, 116]), .lit (.string [100, 111]), .lit (.string [114, 111, 117, 110, 100]), .lit (.string [98, 97, 99, 107]), .lit (.string [115, 104, 111, 119])] := by
    have h1 := congrArg Prod.fst hx
    have h2 : (DataW.agg [.lit (.string []), .lit (.string [115, 101, 116]), .lit (.string [97, 100, 100]), .lit (.string [109, 117, 108]), .lit (.string [97, 112, 97, 114, 116]), .lit (.string [100, 111]), .lit (.string [114, 111, 117, 110, 100]), .lit (.string [98, 97, 99, 107]), .lit (.string [115, 104, 111, 119])] : DataW H) = DataW.agg (xs.map (·.1)) := h1
    injection h2 with h3
    exact h3.symm
  have key : ∀ (i : Nat) (bytes : List UInt8), i < 9 → (xs.map (·.1))[i]? = some (.lit (.string bytes)) → cs[i]? = some (.string ⟨bytes.toArray⟩) := fun i bytes hi hb => by
    rw [List.getElem?_map] at hb
    cases hy : xs[i]? with
    | none => rw [hy] at hb; cases hb
    | some y =>
      rw [hy] at hb
      have h1 := hf i hi
      rw [hy] at h1
      obtain ⟨s, e1, e2, _⟩ := DataW.trod_string Tryz.underlying9 h1
      rw [e2] at hb
      have h3 : s.data.toList = bytes := by
        simp at hb
        exact hb
      have h4 := congrArg (·[0]?) e1
      simp [List.getElem?_drop] at h4
      rw [h4, ← h3]
  rw [hm] at key
  apply List.ext_getElem?
  intro i
  by_cases hi : i < 9
  · rcases (show i = 0 ∨ i = 1 ∨ i = 2 ∨ i = 3 ∨ i = 4 ∨ i = 5 ∨ i = 6 ∨ i = 7 ∨ i = 8 by omega) with rfl | rfl | rfl | rfl | rfl | rfl | rfl | rfl | rfl
    all_goals (rw [key _ _ hi rfl]; rfl)
  · rw [List.getElem?_eq_none (by omega), List.getElem?_eq_none (by show 9 ≤ i; omega)]
theorem dw_of {W : World} (h : W.var? Tryz.prog "loop.example/selvedge/impl.dskWords" = some wordsA) : Dw W := fun k h1 h8 => by
  unfold World.var? at h
  rw [wordsNamed] at h
  simp only [Option.bind_some] at h
  cases hb : W.heap[0]? with
  | none => rw [hb] at h; simp at h
  | some o =>
    rw [hb] at h
    cases o with
    | cells c t fr =>
      simp at h
      subst h
      rw [cell_of_row W 0 k _ _ _ hb]
      rcases (show k = 1 ∨ k = 2 ∨ k = 3 ∨ k = 4 ∨ k = 5 ∨ k = 6 ∨ k = 7 ∨ k = 8 by omega) with rfl | rfl | rfl | rfl | rfl | rfl | rfl | rfl <;> rfl
    | _ => simp at h
theorem dw_list {W : World} {a b c : String × DataW Unit} {r : List (String × DataW Unit)} (h : laidMet Tryz.prog (a :: b :: c :: ("loop.example/selvedge/impl.dskWords", Rows.laid_loop_example_selvedge_impl_dskWords) :: r) W) : W.var? Tryz.prog "loop.example/selvedge/impl.dskWords" = some wordsA := by
  have h1 := h.tail.tail.tail
  obtain ⟨ps, ⟨g1, t1, cs1, fuel1, p1, q1, hg1, ht1, hv1, hd1, _, _⟩, _⟩ := h1
  obtain rfl := Option.some.inj (wordsNamed.symm.trans hg1)
  obtain rfl := Option.some.inj (wordsType.symm.trans ht1)
  rw [hv1]
  congr 1
  exact Array.toList_inj.1 (words_cells hd1)
end Go.Proofs.YtoglomfejgpoeaaGreatDoor
