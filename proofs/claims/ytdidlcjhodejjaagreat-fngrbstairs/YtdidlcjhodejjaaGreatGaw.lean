/-
  Regions of draws that draw their order, by one invariant: which operation left what in its slot.
  What is owned while a reader goes on.
  The draw of an operator that is ok: some terms of the field's numbers, in memory of its own.
-/
import Derived.Test.YtdidlcjhodejjaaGreatGav
import Derived.Test.YtdidlcjhodejjaaGreatGaf
namespace Go.Proofs.YtdidlcjhodejjaaGreat
open Go.RowKit
set_option linter.unusedVariables false

/-- what an operation leaves in its slot: a slice of m new numbers, the reader, a pick below m, a place in such a slice, a number, a monomial, anything. -/
inductive SK where
  | sl (m : Nat) | rd | pk (m : Nat) | ix | ld | ag | no
def KP (B N : Nat) (w : World) (v : Value) : SK → Prop
  | .sl m => Sl w N m v
  | .rd => v = .pointer (some ⟨B, 0, none⟩)
  | .pk m => Pk m v
  | .ix => Ix w N v
  | .ld => Ld v
  | .ag => Ag v
  | .no => True
theorem KP.move {B N : Nat} {w w' : World} {v : Value} {k : SK} (h : KP B N w v k) (hb : Beside B w w') (hB : B < N) : KP B N w' v k := by
  cases k with
  | sl m => exact Sl.move h hb hB
  | ix => exact Ix.move h hb hB
  | _ => exact h
theorem KP.set {B N g o : Nat} {w : World} {v x : Value} {k : SK} (h : KP B N w v k) (hg : g < N) : KP B N (w.setCell ⟨g, o, none⟩ x) v k := by
  cases k with
  | sl m =>
    obtain ⟨b, rfl, hN, hc⟩ := h
    exact ⟨b, rfl, hN, fun i hi => by obtain ⟨y, hy⟩ := hc i hi; exact ⟨y, (cell_set_far (by omega)).trans hy⟩⟩
  | ix =>
    obtain ⟨b, i, y, rfl, hN, hc⟩ := h
    exact ⟨b, i, y, rfl, hN, (cell_set_far (by omega)).trans hc⟩
  | _ => exact h
theorem W4d.set {w : World} {g o : Nat} {v : Int} (h : W4d w g) (ho : o = 0 ∨ o = 1 ∨ o = 2 ∨ o = 3) : W4d (w.setCell ⟨g, o, none⟩ (.int .i64 v)) g := by
  obtain ⟨⟨x0, x1, x2, x3, c0, c1, c2, c3⟩, f0, f1, f2, f3⟩ := h
  refine ⟨?_, by rw [World.frozen?_setCell]; exact f0, by rw [World.frozen?_setCell]; exact f1, by rw [World.frozen?_setCell]; exact f2, by rw [World.frozen?_setCell]; exact f3⟩
  rcases ho with rfl | rfl | rfl | rfl
  · exact ⟨v, x1, x2, x3, by go_simp, by go_simp, by go_simp, by go_simp⟩
  · exact ⟨x0, v, x2, x3, by go_simp, by go_simp, by go_simp, by go_simp⟩
  · exact ⟨x0, x1, v, x3, by go_simp, by go_simp, by go_simp, by go_simp⟩
  · exact ⟨x0, x1, x2, v, by go_simp, by go_simp, by go_simp, by go_simp⟩
theorem W4d.set' {w : World} {g g' o : Nat} {v : Int} (h : W4d w g) (ho : o = 0 ∨ o = 1 ∨ o = 2 ∨ o = 3) : W4d (w.setCell ⟨g', o, none⟩ (.int .i64 v)) g := by
  by_cases hg : g = g'
  · subst hg; exact h.set ho
  · exact h.far hg
/-- what is done has all done that it waits for. -/
def Closed (ops : Array Oper) (l : Array Bool) : Prop := ∀ i o, ops[i]? = some o → l.getD i false = true → ∀ e ∈ o.after, Region.binds .any e = true → l.getD e.on false = true
theorem Closed.start (ops : Array Oper) (n : Nat) : Closed ops (Array.replicate n false) := fun i o _ h => by rw [rep_getD] at h; cases h
theorem Closed.step {ops : Array Oper} {l : Array Bool} {i : Nat} (h : Closed ops l) (hi : i ∈ Region.ready .any ops l) (hl : l.size = ops.size) : Closed ops (l.setIfInBounds i true) := by
  intro j o ho hj e he hb
  obtain ⟨_, o', ho', ha⟩ := mem_ready.1 hi
  have hil : i < l.size := by rw [hl]; exact (Array.getElem?_eq_some_iff.1 ho').1
  have hd : l.getD e.on false = true := by
    by_cases hji : j = i
    · subst hji
      rw [ho] at ho'
      obtain rfl := Option.some.inj ho'
      exact ha e he hb
    · rw [getD_set_ne false (fun e => hji e.symm)] at hj
      exact h j o ho hj e he hb
  by_cases hei : e.on = i
  · rw [hei, getD_set_eq false hil]
  · rw [getD_set_ne false (fun e => hei e.symm)]; exact hd
theorem Closed.dep {ops : Array Oper} {l : Array Bool} {i : Nat} {o : Oper} (h : Closed ops l) (ho : ops[i]? = some o) (hd : l.getD i false = true) (k : Nat) (hk : o.after.any (fun e => Region.binds .any e && e.on == k) = true) : l.getD k false = true := by
  rw [Array.any_eq_true'] at hk
  obtain ⟨e, he, hh⟩ := hk
  simp only [Bool.and_eq_true, beq_iff_eq] at hh
  rw [← hh.2]
  exact h i o ho hd e he hh.1
theorem not_done {l : Array Bool} {i : Nat} (h : l.getD i true = false) : l.getD i false = true → False := fun k => by
  rw [Array.getD_eq_getD_getElem?] at h k
  cases hx : l[i]? with
  | none => rw [hx] at h; simp at h
  | some b => rw [hx] at h k; simp at h k; rw [h] at k; cases k
/-- what holds whatever has been done so far. S: the first operation behind the calls. -/
def RI (ops : Array Oper) (F : (Nat → Value) → Act) (T : Nat → SK) (n S B p N : Nat) (G : List Nat) (w0 : World) (l : Array Bool) (a : Act) (u : World) : Prop :=
  ∃ (q : Nat) (vs : Nat → Value), a = F vs ∧ (l.getD S false = false → Rdr u B q) ∧ q + 30 * undone l ≤ p + 30 * n ∧ Below w0.heap.size w0 u ∧ N ≤ u.heap.size ∧ (∀ g ∈ G, W4d u g) ∧ l.size = n ∧ Closed ops l ∧ ∀ k, l.getD k false = true → KP B N u (vs k) (T k)
theorem RI.start {ops : Array Oper} {F : (Nat → Value) → Act} {T : Nat → SK} {n S B p N : Nat} {G : List Nat} {w0 u : World} {a : Act} (vs : Nat → Value) (ha : a = F vs) (hR : Rdr u B p) (hb : Below w0.heap.size w0 u) (hN : N ≤ u.heap.size) (hG : ∀ g ∈ G, W4d u g) : RI ops F T n S B p N G w0 (Array.replicate n false) a u.drew :=
  ⟨p, vs, ha, fun _ => hR, by rw [undone_replicate]; exact Nat.le_refl _, hb.drew, hN, fun g hg => (hG g hg).move ((Beside.refl (g + 1) u).drewN 1) (by omega), by simp, Closed.start _ _, fun k h => by rw [rep_getD] at h; cases h⟩
theorem RI.step {ops : Array Oper} {F : (Nat → Value) → Act} {T : Nat → SK} {n S B p N : Nat} {G : List Nat} {w0 u u' : World} {l : Array Bool} {q q' : Nat} {vs : Nat → Value} (i : Nat) (v : Value) {a : Act}
    (hBN : B < N) (hB0 : w0.heap.size ≤ B) (hBG : ∀ g ∈ G, g ≠ B) (hi : i ∈ Region.ready .any ops l) (hno : ops.size = n) (hq : q + 30 * undone l ≤ p + 30 * n) (hR : (l.setIfInBounds i true).getD S false = false → Rdr u' B q') (hqq : q' ≤ q + 30) (hb : Below w0.heap.size w0 u) (hN : N ≤ u.heap.size) (hG : ∀ g ∈ G, W4d u g) (hl : l.size = n) (hcl : Closed ops l)
    (hf : ∀ k, l.getD k false = true → KP B N u (vs k) (T k)) (hm : Beside B u u') (hv : KP B N u' v (T i)) (ha : a = F (fun k => if k = i then v else vs k)) : RI ops F T n S B p N G w0 (l.setIfInBounds i true) a u' := by
  have hund := undone_set (getD_false (mem_ready.1 hi).1)
  refine ⟨q', fun k => if k = i then v else vs k, ha, hR, by omega, hm.below hb hB0 (by have := hb.size; omega), Nat.le_trans hN hm.size, fun g hg => (hG g hg).move hm (hBG g hg), by simp [hl], hcl.step hi (by omega), fun k hk => ?_⟩
  by_cases hki : k = i
  · have hv2 : KP B N u' v (T k) := by rw [hki]; exact hv
    exact Eq.mpr (congrArg (fun z => KP B N u' z (T k)) (if_pos hki)) hv2
  · rw [getD_set_ne false (fun e => hki e.symm)] at hk
    exact Eq.mpr (congrArg (fun z => KP B N u' z (T k)) (if_neg hki)) ((hf k hk).move hm hBN)
/-- a store of a monomial. -/
theorem RI.store {ops : Array Oper} {F : (Nat → Value) → Act} {T : Nat → SK} {n S B p N : Nat} {G : List Nat} {w0 u : World} {l : Array Bool} {q : Nat} {vs : Nat → Value} (i : Nat) {a : Act} {g : Nat} {x y d z : Int} (hg : g ∈ G) (hgN : g < N) (hg0 : w0.heap.size ≤ g) (hS : l.getD S false = true) (hiS : i ≠ S)
    (hi : i ∈ Region.ready .any ops l) (hno : ops.size = n) (hq : q + 30 * undone l ≤ p + 30 * n) (hb : Below w0.heap.size w0 u) (hN : N ≤ u.heap.size) (hG : ∀ g ∈ G, W4d u g) (hl : l.size = n) (hcl : Closed ops l)
    (hf : ∀ k, l.getD k false = true → KP B N u (vs k) (T k)) (hv : T i = .no) (ha : a = F vs) : RI ops F T n S B p N G w0 (l.setIfInBounds i true) a ((((u.setCell ⟨g, 0, none⟩ (.int .i64 x)).setCell ⟨g, 1, none⟩ (.int .i64 y)).setCell ⟨g, 2, none⟩ (.int .i64 d)).setCell ⟨g, 3, none⟩ (.int .i64 z)) := by
  have hund := undone_set (getD_false (mem_ready.1 hi).1)
  refine ⟨q, vs, ha, ?_, by omega, (((hb.setCell hg0 _).setCell hg0 _).setCell hg0 _).setCell hg0 _, by simpa [World.setCell] using hN, fun k hk => ((((hG k hk).set' (by omega)).set' (by omega)).set' (by omega)).set' (by omega), by simp [hl], hcl.step hi (by omega), fun k hk => ?_⟩
  · intro h
    rw [getD_set_ne false hiS, hS] at h
    cases h
  · by_cases hki : k = i
    · rw [hki, hv]; trivial
    · rw [getD_set_ne false (fun e => hki e.symm)] at hk
      exact ((((hf k hk).set hgN).set hgN).set hgN).set hgN
theorem rdr_keep {l : Array Bool} {i S : Nat} {P : Prop} (h : i ≠ S) (hR : l.getD S false = false → P) : (l.setIfInBounds i true).getD S false = false → P := fun k => hR (by rwa [getD_set_ne false h] at k)
theorem rdr_gone {l : Array Bool} {S : Nat} {P : Prop} (h : S < l.size) : (l.setIfInBounds S true).getD S false = false → P := fun k => by rw [getD_set_eq false h] at k; cases k
theorem wp_region_ri {P : Program} {id : Nat} {ops : Array Oper} {Q : Exit → Act → World → Prop} (F : (Nat → Value) → Act) (T : Nat → SK) (n S B p N : Nat) (G : List Nat) (w0 : World) {a : Act} {w : World} (hm : P.follows .mixedOrders = true)
    (h0 : RI ops F T n S B p N G w0 (Array.replicate ops.size false) a w.drew)
    (hs : ∀ l a w, RI ops F T n S B p N G w0 l a w → ∀ i ∈ Region.ready .any ops l, wpOp P ops Q i (RI ops F T n S B p N G w0 (l.setIfInBounds i true)) a w)
    (he : ∀ l a w, RI ops F T n S B p N G w0 l a w → Region.ready .any ops l = [] → Q .normal a w) : (Code.region id ops true).wp P Q a w := wp_region_inv (I := RI ops F T n S B p N G w0) hm h0 hs he
/-- where nothing is ready all is done, if each waits for what stands ahead of it alone. -/
theorem all_done {ops : Array Oper} {l : Array Bool} (h : (List.range ops.size).all (fun i => match ops[i]? with | some o => o.after.all (fun e => !Region.binds .any e || decide (e.on < i)) | none => true) = true) (hr : Region.ready .any ops l = []) (hl : l.size = ops.size) : ∀ i, i < ops.size → l.getD i false = true := by
  intro i
  induction i using Nat.strongRecOn with
  | _ i ih =>
    intro hi
    cases hx : l.getD i false
    · exfalso
      rw [List.eq_nil_iff_forall_not_mem] at hr
      refine hr i (mem_ready.2 ⟨?_, ops[i], Array.getElem?_eq_getElem hi, fun e he hb => ?_⟩)
      · rw [Array.getD_eq_getD_getElem?] at hx ⊢
        rw [Array.getElem?_eq_getElem (by omega)] at hx ⊢
        simpa using hx
      · rw [List.all_eq_true] at h
        have h1 := h i (List.mem_range.2 hi)
        rw [Array.getElem?_eq_getElem hi] at h1
        simp only [Array.all_eq_true'] at h1
        have h2 := h1 e he
        rw [hb] at h2
        simp at h2
        exact ih e.on h2 (by omega)
    · rfl
end Go.Proofs.YtdidlcjhodejjaaGreat
namespace Go.Proofs.YtdidlcjhodejjaaGreat
open Go.RowKit
set_option linter.unusedVariables false

theorem beside_grown {B : Nat} {w w' : World} (h : Beside B w w') : w.grownBy w' (some B) := ⟨h.os, h.tape, h.output, h.size, fun k hk hn => h.block k hk (fun e => hn (by rw [e]))⟩
theorem beside_of_below {B : Nat} {w w' : World} (h : Below w.heap.size w w') : Beside B w w' := ⟨h.os, h.tape, h.output, h.size, fun k hk _ => h.block k hk⟩
/-- a reader below whose block nothing is turned. -/
theorem Rdr.beside {w w' : World} {B p : Nat} (h : Rdr w B p) (hb : Beside w.heap.size w w') : Rdr w' B p := by
  have hlt := h.lt
  obtain ⟨hc1, hf, a, len, cap, hc0, hl, h0⟩ := h
  have he := hb.block B hlt (by omega)
  refine ⟨(World.cell?_of_block (w := w) (a := ⟨B, 1, none⟩) he).trans hc1, (World.frozen?_of_block (w := w) (a := ⟨B, 1, none⟩) he).trans hf, a, len, cap, (World.cell?_of_block (w := w) (a := ⟨B, 0, none⟩) he).trans hc0, hl, ?_⟩
  rcases h0 with h0 | ⟨bb, off, z, rfl, hbb, hz, z0, z1⟩
  · exact .inl h0
  · exact .inr ⟨bb, off, z, rfl, hbb, fun i hi => (World.cell?_of_block (w := w) (a := ⟨bb, off + i, none⟩) (hb.block bb (by omega) (by omega))).trans (hz i hi), z0, z1⟩
theorem owns_beside {w w' : World} {B base : Nat} {e : TypeId} {size : Nat} {v : Value} {n : Nat} {xs : List Value} (h : w.ownsRow base e size v n xs) (hb : Beside B w w') (hB : B < base) : w'.ownsRow base e size v n xs := by
  refine h.kept (beside_grown hb) ?_
  cases hv : v.ownBlock with
  | none => exact .inl rfl
  | some k =>
    refine .inr (fun he => ?_)
    have := (h.lt k hv).1
    cases he
    omega
end Go.Proofs.YtdidlcjhodejjaaGreat
namespace Go.Proofs.YtdidlcjhodejjaaGreat
open Go.RowKit
set_option linter.unusedVariables false

set_option maxRecDepth 100000 in
set_option maxHeartbeats 4000000 in
theorem pol_any (w : World) (B p : Nat) (n : Int) (h : Rdr w B p) (hn0 : 0 ≤ n) (hn : n ≤ 50) (hp : p ≤ 10000) :
    Calls Tryz.prog 109 #[.pointer (some ⟨B, 0, none⟩), .int .i64 n] w fun r w' => ∃ (v : Value) (L : List T) (q : Nat), r = .returned v ∧ w'.ownsRow w.heap.size 42 5 v L.length (cellsL L) ∧ (L.length : Int) ≤ n ∧ Cok L ∧ (q : Int) ≤ p + 1 + 31 * n ∧ Rdr w' B q ∧ Beside B w w' := by
  have hB := h.lt
  have HO0 := Hid.mk' (owns_none w w.heap.size (Nat.le_refl _))
  have HR0 := Hid.mk' (h.alloc (.cells #[] 42))
  have HB0 := Hid.mk' ((Beside.refl B w).alloc (.cells #[] 42))
  clear h
  go_enter Tryz.func109, Tryz.ntmps109
  go_wp2_with fail
  generalize (w.alloc (.cells #[] 42)) = W at HO0 HR0 HB0 ⊢
  refine (pick_any _ B p (n + 1) HR0.out (by omega) (by omega) (by omega)).mono ?_
  rintro e w1 ⟨k, rfl, k0, k1, hk⟩
  have HR1 := Hid.mk' (hk.rdr HR0.out)
  have HB1 := Hid.mk' (HB0.out.trans hk.beside)
  have HO1 := Hid.mk' (owns_beside HO0.out hk.beside hB)
  clear hk HO0 HR0 HB0
  go_wp2
  go_loopw [5, 6] (fun v i wr => ∃ (j : Nat) (L : List T) (q : Nat), i = .int .i64 j ∧ wr.ownsRow w.heap.size 42 5 v L.length (cellsL L) ∧ (L.length : Int) + j ≤ n ∧ Hid (Cok L) ∧ (q : Int) + 31 * j ≤ p + 1 + 31 * n ∧ Rdr wr B q ∧ Beside B w wr) (fun _ i _ => (intOf i).toNat)
  case atStart => exact ⟨k.toNat, [], p + 1, by rw [Int.toNat_of_nonneg k0], HO1.out, by simp; omega, cok_nil, by omega, HR1.out, HB1.out⟩
  case round =>
    obtain ⟨j, L, q, rfl, ho, hl, hc, hq, hR, hb⟩ := hrel
    by_cases hj : 0 < j
    · obtain ⟨m, rfl⟩ : ∃ m, j = m + 1 := ⟨j - 1, by omega⟩
      have HO := Hid.mk' ho
      have HR := Hid.mk' hR
      have HB := Hid.mk' hb
      have hjb : (0 : Int) < ((m + 1 : Nat) : Int) := by omega
      clear ho hR hb
      go_wp2_with fail
      refine (pick_any wr B q 100 HR.out (by omega) (by omega) (by omega)).mono ?_
      rintro e w2 ⟨c, rfl, c0, c1, hk⟩
      have HR2 := Hid.mk' (hk.rdr HR.out)
      have HB2 := Hid.mk' (HB.out.trans hk.beside)
      have HO2 := Hid.mk' (owns_beside HO.out hk.beside hB)
      clear hk HR HB HO
      go_wp2_with fail
      refine (mon_any w2 B _ 99999 HR2.out (by omega) (by omega) (by omega)).mono ?_
      rintro e w3 ⟨x, y, d, z, q3, rfl, hq3, r3, s3⟩
      have HR3 := Hid.mk' r3
      have HB3 := Hid.mk' (HB2.out.trans s3)
      have HO3 := Hid.mk' (owns_beside HO2.out s3 hB)
      clear r3 s3 HR2 HB2 HO2
      go_wp2_with fail
      refine (l4PutS _ w.heap.size _ L (1 + c) x y d z HO3.out HB3.out.size (by omega) hc.out (by omega) (by omega)).mono ?_
      rintro e w4 ⟨v4, rfl, hb4, ho4⟩
      have HR4 := Hid.mk' (HR3.out.beside (beside_of_below hb4))
      have HB4 := Hid.mk' (HB3.out.trans (beside_of_below hb4))
      have HO4 := Hid.mk' ho4
      have HC4 := Hid.mk' (putT_c (c := 1 + c) (m := ⟨x, y, d, z⟩) hc.out (by omega) (by omega))
      have hl4 := putT_len (1 + c) ⟨x, y, d, z⟩ L
      clear hb4 ho4 HR3 HB3 HO3
      go_wp2
      go_roundw
      case rel => exact ⟨m, putT (1 + c) ⟨x, y, d, z⟩ L, q3, by first | go_num | (congr 1; omega), HO4.out, by omega, HC4.out, by omega, HR4.out, HB4.out⟩
      case measure => simp [intOf]
    · obtain rfl : j = 0 := by omega
      have HR := Hid.mk' hR
      obtain ⟨hc1, hf, a, len, cap, hc0, hl0, h0⟩ := hR
      clear hc1 hf h0
      have hlen : (len : Int) ≤ 2000 := by omega
      by_cases hz : len = 0
      · subst hz
        have HO := Hid.mk' (owns_none wr w.heap.size hb.size)
        have HB := Hid.mk' (hb.alloc (.cells #[] 42))
        have HR2 := Hid.mk' (HR.out.alloc (.cells #[] 42))
        clear ho hb
        go_wp2
        go_ret
        exact ⟨_, [], q, rfl, HO.out, by simpa using hn0, cok_nil, by omega, HR2.out, HB.out⟩
      · have hzb : ((len : Int) == 0) = false := by simp; omega
        have HO := Hid.mk' ho
        clear ho
        go_wp2
        go_ret
        exact ⟨_, L, q, rfl, HO.out, by omega, hc.out, by omega, HR.out, hb⟩
end Go.Proofs.YtdidlcjhodejjaaGreat
