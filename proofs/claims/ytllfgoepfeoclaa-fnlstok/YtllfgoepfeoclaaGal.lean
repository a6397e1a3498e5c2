/-
  How the rows' readings of lists of operators are opened.
  A copy of lists, its blocks rise; and it is marked.
  A term put into a sum, in the model.
-/
import Derived.Test.YtllfgoepfeoclaaGag
import Derived.ProofKit
import Derived.Deep.Slices
import Derived.Lib.SmallJoins
import Derived.Test.YtllfgoepfeoclaaGae
import Derived.Test.YtllfgoepfeoclaaGad
namespace Go.Proofs.Ytllfgoepfeoclaa
open Go.RowKit Go.Deep Go.Joins
set_option linter.unusedVariables false

/-- A slice of slices of terms that came in. -/
def IsLists (w : World) (a : Option Addr) (n cap : Nat) (ad : Nat → Option Addr) (ln cp : Nat → Nat) (f : Nat → Nat → T) : Prop :=
  n ≤ cap ∧ cap ≤ maxLen ∧ (n = 0 ∨ ∃ b off, a = some ⟨b, off, none⟩ ∧ b < w.heap.size ∧ ∀ i, i < n → w.cell? ⟨b, off + i, none⟩ = some (.slice (ad i) (ln i) (cp i))) ∧ ∀ i, i < n → IsTerms w (ad i) (ln i) (cp i) (f i)
theorem IsLists.rd {w : World} {a : Option Addr} {n cap : Nat} {ad : Nat → Option Addr} {ln cp : Nat → Nat} {f : Nat → Nat → T} (h : IsLists w a n cap ad ln cp f) (hn : n * 40 ≤ 140737488351232) (hl : ∀ i, i < n → ln i * 40 ≤ 140737488351232) : RdS w a n cap ad ln cp f :=
  ⟨h.1, hn, h.2.2.1, fun i hi => (h.2.2.2 i hi).rd (hl i hi)⟩
theorem cellsOfS : Try.prog.cellsOf 22 = 1 := by kernel_rfl
theorem slice_of_trod {H : Type} {enc : TypeId × Value → H} {w : World} {base : Nat} {spare : Nat → Bool} {held : Bool} {fuel : Nat} {v : Value} {x : DataW H × List MemPlace}
    (h : DataW.trod enc Try.prog w base spare held fuel 22 [v] = some x) : ∃ (t : Option Addr × Nat × Nat) (f : Nat → T), v = .slice t.1 t.2.1 t.2.2 ∧ IsTerms w t.1 t.2.1 t.2.2 f := by
  have h' := h
  rcases open_slice Try.underlying22 h with ⟨hc, _⟩ | ⟨ad, len, cp, m, k, D, Pl, hc, _⟩
  · simp at hc
    subst hc
    obtain ⟨f, hf⟩ := terms_open h'
    exact ⟨(none, 0, 0), f, rfl, hf⟩
  · simp at hc
    subst hc
    obtain ⟨f, hf⟩ := terms_open h'
    exact ⟨(some ad, len, cp), f, rfl, hf⟩
set_option maxRecDepth 100000 in
theorem lists_open {H : Type} {enc : TypeId × Value → H} {w : World} {base : Nat} {spare : Nat → Bool} {held : Bool} {fuel : Nat} {a : Option Addr} {n cap : Nat} {x : DataW H × List MemPlace}
    (h : DataW.trod enc Try.prog w base spare held fuel 35 [.slice a n cap] = some x) : ∃ ad ln cp f, IsLists w a n cap ad ln cp f := by
  rcases open_slice Try.underlying35 h with ⟨hc, _⟩ | ⟨ad, len, cp, m, k, D, Pl, hc, _, hl, hm, hmm, _, hx⟩
  · simp at hc
    obtain ⟨rfl, rfl, rfl⟩ := hc
    exact ⟨fun _ => none, fun _ => 0, fun _ => 0, fun _ _ => ⟨0, ⟨0, 0, 0, 0⟩⟩, Nat.le_refl _, Nat.zero_le _, .inl rfl, fun i hi => absurd hi (Nat.not_lt_zero _)⟩
  · simp at hc
    obtain ⟨rfl, rfl, rfl⟩ := hc
    by_cases h0 : n = 0
    · exact ⟨fun _ => none, fun _ => 0, fun _ => 0, fun _ _ => ⟨0, ⟨0, 0, 0, 0⟩⟩, hl, hm, .inl h0, fun i hi => by omega⟩
    have hnm : n ≤ m := by rw [hmm]; split <;> omega
    have each : ∀ i, i < n → ∃ t : (Option Addr × Nat × Nat) × (Nat → T), w.cell? (ad.add i) = some (.slice t.1.1 t.1.2.1 t.1.2.2) ∧ IsTerms w t.1.1 t.1.2.1 t.1.2.2 t.2 := by
      intro i hi
      obtain ⟨cs', h1, h2⟩ := hx i (by omega)
      rw [cellsOfS] at h1
      obtain ⟨_, hlen, hcell⟩ := World.cells?_some h1
      match cs', hlen with
      | [v0], _ =>
        obtain ⟨t, f, rfl, ht⟩ := slice_of_trod h2
        have c0 := hcell 0 (by omega)
        rw [add_add] at c0
        exact ⟨(t, f), by simpa using c0, ht⟩
    haveI : Inhabited ((Option Addr × Nat × Nat) × (Nat → T)) := ⟨((none, 0, 0), fun _ => ⟨0, ⟨0, 0, 0, 0⟩⟩)⟩
    obtain ⟨q, hq⟩ := choose_lt each
    obtain ⟨b, off, spot⟩ := ad
    have hs : spot = none := by
      have := World.cell?_spot (hq 0 (by omega)).1
      simpa [Addr.add] using this
    subst hs
    have hadd : ∀ j, (⟨b, off, none⟩ : Addr).add j = ⟨b, off + j, none⟩ := fun j => by unfold Addr.add; split <;> simp_all
    refine ⟨fun i => (q i).1.1, fun i => (q i).1.2.1, fun i => (q i).1.2.2, fun i => (q i).2, hl, hm, .inr ⟨b, off, rfl, ?_, fun i hi => ?_⟩, fun i hi => (hq i hi).2⟩
    · have := World.block_lt_of_cell? w _ (hq 0 (by omega)).1
      rw [hadd] at this
      exact this
    · have := (hq i hi).1
      rw [hadd] at this
      exact this
end Go.Proofs.Ytllfgoepfeoclaa
namespace Go.Proofs.Ytllfgoepfeoclaa
open Go.RowKit Go.Deep Go.Joins
set_option linter.unusedVariables false
set_option maxHeartbeats 4000000 in
theorem toLists2 (w : World) (a : Option Addr) (n cap : Nat) (ad : Nat → Option Addr) (ln cp : Nat → Nat) (f : Nat → Nat → T) (h : RdS w a n cap ad ln cp f) :
    Calls Try.prog 14 #[.slice a n cap] w fun r w' => ∃ B : Nat → Nat, r = .returned (.slice (some ⟨w.heap.size, 0, none⟩) n n) ∧ Below w.heap.size w w' ∧ w'.rowIs w.heap.size 30 n (partS B ln n) ∧ (∀ i, i < n → w.heap.size < B i ∧ Own w' (B i) (ln i) (f i)) ∧ ∀ i j, i < j → j < n → B i < B j := by
  have hn : (n : Int) ≤ 140737488351232 := by have := h.2.1; omega
  have h2 := h.2.1
  have HH := Hid.mk' h
  clear h
  go_enter Try.func14, Try.ntmps14
  go_wp2_with (at_make; refine make_lists _ rfl _ _ rfl n rfl rfl (by omega) ?_; intro hrow)
  go_loopw [4] (fun i wr => ∃ (k : Nat) (B : Nat → Nat), k ≤ n ∧ i = .int .i64 k ∧ Below w.heap.size w wr ∧ wr.rowIs w.heap.size 30 n (partS B ln k) ∧ (∀ i, i < k → w.heap.size < B i ∧ Own wr (B i) (ln i) (f i)) ∧ ∀ i j, i < j → j < k → B i < B j) (fun i _ => n - (intOf i).toNat)
  case atStart => exact ⟨0, fun _ => 0, Nat.zero_le _, rfl, (Below.refl _ _).alloc (Nat.le_refl _) _, hrow.congr fun j _ => by simp [partS], fun i hi => by omega, fun i j _ hj => by omega⟩
  case round =>
    obtain ⟨k, B, hk, rfl, hB, hR, hO, hD⟩ := hrel
    have HD := Hid.mk' hD
    clear hD
    by_cases hlt : k < n
    · rcases HH.out.2.2.1 with h0 | ⟨b, off, rfl, hblt, hcl⟩
      · omega
      have hkn : (k : Int) < (n : Int) := by omega
      have g0 : wr.cell? ⟨b, off + k, none⟩ = some (.slice (ad k) (ln k) (cp k)) := (hB.cell (p := ⟨b, off + k, none⟩) hblt).trans (hcl k hlt)
      have HR := Hid.mk' hR
      have HO := Hid.mk' hO
      have HB := Hid.mk' hB
      have HK := Hid.mk' ((HH.out.2.2.2 k hlt).below hB)
      clear hR hcl hO
      go_wp2_with fail
      refine (toTerms _ _ _ _ (f k) HK.out).mono ?_
      rintro r w1 ⟨rfl, hb, ho⟩
      have hR1 := HR.out.of_block (hb.block w.heap.size (HR.out.lt))
      have hB1 := HB.out.trans (hb.mono HB.out.size)
      have hsz : w.heap.size < wr.heap.size := HR.out.lt
      have q0 := hR1.cell (i := k) hlt
      have fz := fun i => hR1.frozen i
      obtain ⟨V, hV⟩ : ∃ V, wr.heap.size = V := ⟨_, rfl⟩
      rw [hV] at ho ⊢
      have HN := Hid.mk' (partS_next (v := V) hR1)
      have HO2 : Hid (∀ i, i < k + 1 → w.heap.size < (if i = k then V else B i) ∧ Own w1 (if i = k then V else B i) (ln i) (f i)) := fun i hi => by
        by_cases e : i = k
        · rw [if_pos e, e]
          exact ⟨by omega, ho⟩
        · rw [if_neg e]
          have := HO.out i (by omega)
          exact ⟨this.1, this.2.below hb this.2.lt⟩
      have HD2 : Hid (∀ i j, i < j → j < k + 1 → (if i = k then V else B i) < (if j = k then V else B j)) := fun i j hij hj => by
        rw [if_neg (show ¬ i = k by omega)]
        by_cases e : j = k
        · rw [if_pos e, ← hV]
          exact (HO.out i (by omega)).2.lt
        · rw [if_neg e]
          exact HD.out i j hij (by omega)
      have HB1 := Hid.mk' hB1
      clear hR1 HR hb ho HO hB1 hB
      go_wp2
      go_roundw
      case rel =>
        refine ⟨k + 1, _, by omega, by go_num, HB1.out.setCell (Nat.le_refl _) _, HN.out, fun i hi => ?_, HD2.out⟩
        have := HO2.out i hi
        refine ⟨this.1, this.2.of_block ?_⟩
        exact Below.heap_setCell _ _ _ _ (Nat.ne_of_gt this.1)
      case measure => simp [intOf]; omega
    · have hkn : k = n := by omega
      subst hkn
      have HR := Hid.mk' hR
      have HO := Hid.mk' hO
      clear hR hO
      go_wp2
      go_ret
      exact ⟨B, rfl, hB, HR.out, HO.out, HD.out⟩
/-- no block was changed but those between lo and hi. -/
structure Apart (lo hi : Nat) (w w' : World) : Prop where
  os : w'.os = w.os
  tape : w'.tape = w.tape
  output : w'.output = w.output
  size : w'.heap.size = w.heap.size
  block : ∀ k, k < w.heap.size → k < lo ∨ hi ≤ k → w'.heap[k]? = w.heap[k]?
theorem Apart.refl (lo hi : Nat) (w : World) : Apart lo hi w w := ⟨rfl, rfl, rfl, rfl, fun _ _ _ => rfl⟩
theorem Apart.grown {lo hi : Nat} {w w' w'' : World} {g : Nat} (h : Apart lo hi w w') (hg : w'.grownBy w'' (some g)) (hs : w''.heap.size = w'.heap.size) (h1 : lo ≤ g) (h2 : g < hi) : Apart lo hi w w'' :=
  ⟨hg.os.trans h.os, hg.tape.trans h.tape, hg.output.trans h.output, hs.trans h.size, fun k hk hc => (hg.block k (by rw [h.size]; exact hk) (fun e => by cases e; omega)).trans (h.block k hk hc)⟩
set_option maxRecDepth 100000 in
set_option maxHeartbeats 4000000 in
theorem markLists (w : World) (g n hi : Nat) (B ln : Nat → Nat) (f : Nat → Nat → T) (k : Int) (hR : w.rowIs g 30 n (partS B ln n)) (hO : ∀ i, i < n → g < B i ∧ B i < hi ∧ Own w (B i) (ln i) (f i)) (hD : ∀ i j, i < j → j < n → B i < B j) (hn : n ≤ 1048576) (hl : ∀ i, i < n → ln i ≤ 1048576) (hk0 : 0 ≤ k) (hk1 : k ≤ 10000000000000) :
    Calls Try.prog 18 #[.slice (some ⟨g, 0, none⟩) n n, .int .i64 k] w fun r w' => ∃ z : Int, r = .returned (.int .i64 z) ∧ 0 ≤ z ∧ z ≤ k + 5242880 * n ∧ Apart (g + 1) hi w w' := by
  have hn' : (n : Int) ≤ 1048576 := by omega
  have HR := Hid.mk' hR
  have HO := Hid.mk' hO
  have HD := Hid.mk' hD
  have HL := Hid.mk' hl
  clear hR hO hD hl
  go_enter Try.func18, Try.ntmps18
  go_wp2
  go_loopw [1, 5] (fun kk ii wr => ∃ (i : Nat) (z : Int), i ≤ n ∧ ii = .int .i64 (i : Int) ∧ kk = .int .i64 z ∧ 0 ≤ z ∧ z ≤ k + 5242880 * i ∧ Apart (g + 1) hi w wr ∧ ∀ j, i ≤ j → j < n → Own wr (B j) (ln j) (f j)) (fun _ ii _ => n - (intOf ii).toNat)
  case atStart => exact ⟨0, k, Nat.zero_le _, rfl, rfl, hk0, by omega, Apart.refl _ _ _, fun j _ hj => (HO.out j hj).2.2⟩
  case round =>
    obtain ⟨i, z, hi, rfl, rfl, z0, z1, hA, hW⟩ := hrel
    have HA := Hid.mk' hA
    have HW := Hid.mk' hW
    clear hW
    by_cases hlt : i < n
    · have hil : (i : Int) < (n : Int) := by omega
      have hgl : g < w.heap.size := HR.out.lt
      have hrow := HR.out.of_block (hA.block g hgl (.inl (Nat.lt_succ_self _)))
      have g0 := hrow.cell (i := i) hlt
      have e0 : partS B ln n i = .slice (some ⟨B i, 0, none⟩) (ln i) (ln i) := by simp [partS, hlt]
      rw [e0] at g0
      have hli := HL.out i hlt
      have hw := HW.out i (Nat.le_refl _) hlt
      have HM := Hid.mk' (markTerms wr (some ⟨B i, 0, none⟩) (ln i) (ln i) (f i) z hw.wr (by omega) z0 (by omega))
      clear hrow hA hw e0
      go_wp2_with fail
      refine HM.out.mono ?_
      rintro r w1 ⟨rfl, hg, hz, _, _⟩
      have HA1 := Hid.mk' (HA.out.grown (show wr.grownBy w1 (some (B i)) from hg) hz (HO.out i hlt).1 (HO.out i hlt).2.1)
      have HW1 : Hid (∀ j, i + 1 ≤ j → j < n → Own w1 (B j) (ln j) (f j)) := fun j h1 h2 => (HW.out j (by omega) h2).of_block (hg.block (B j) (HW.out j (by omega) h2).lt (fun e => by
        have := HD.out i j (by omega) h2
        have e' : B j = B i := by simpa using e
        omega))
      clear hg hz HM g0
      go_wp2
      go_roundw
      case rel => exact ⟨i + 1, z + 5 * (ln i), by omega, by go_num, rfl, by omega, by omega, HA1.out, HW1.out⟩
      case measure => simp [intOf]; omega
    · have hnl : ¬ (i : Int) < (n : Int) := by omega
      have hie : i = n := by omega
      subst hie
      go_wp2
      go_ret
      exact ⟨z, rfl, z0, z1, HA.out⟩
end Go.Proofs.Ytllfgoepfeoclaa
namespace Go.Proofs.Ytllfgoepfeoclaa
open Go.RowKit
set_option linter.unusedVariables false

def putT (c : Int) (m : M) (L : List T) : List T := if c = 0 then L else addT (lf L) L.length (fun _ => ⟨c, m⟩) 1 0 0
/-- all numbers are of the field. -/
def Cok (L : List T) : Prop := ∀ t ∈ L, 0 ≤ t.c ∧ t.c ≤ 100
theorem cok_nil : Cok [] := fun t ht => by simp at ht
theorem lf_mem {L : List T} {i : Nat} (h : i < L.length) : lf L i ∈ L := by
  unfold lf
  rw [List.getD_eq_getElem?_getD, List.getElem?_eq_getElem h]
  exact List.getElem_mem h
theorem Cok.at {L : List T} (h : Cok L) : ∀ i, i < L.length → 0 ≤ (lf L i).c ∧ (lf L i).c ≤ 100 := fun i hi => h _ (lf_mem hi)
theorem addI_c {f : Nat → T} {la : Nat} {g : Nat → T} {lb : Nat} (hf : ∀ i, i < la → 0 ≤ (f i).c ∧ (f i).c ≤ 100) (hg : ∀ i, i < lb → 0 ≤ (g i).c ∧ (g i).c ≤ 100) : ∀ (u i k : Nat), Cok (mrgI f la g lb u i k)
  | 0, _, _ => by intro t ht; simp [mrgI] at ht
  | u + 1, i, k => by
    have a1 := addI_c hf hg u (i + 1) k
    have a2 := addI_c hf hg u i (k + 1)
    have a3 := addI_c hf hg u (i + 1) (k + 1)
    intro t ht
    simp only [mrgI] at ht
    split at ht
    · rename_i hh
      split at ht
      · rcases List.mem_cons.1 ht with rfl | ht
        · exact hf i hh.1
        · exact a1 t ht
      · split at ht
        · rcases List.mem_cons.1 ht with rfl | ht
          · exact hg k hh.2
          · exact a2 t ht
        · split at ht
          · rcases List.mem_cons.1 ht with rfl | ht
            · dsimp only; omega
            · exact a3 t ht
          · exact a3 t ht
    · split at ht
      · rename_i hh
        rcases List.mem_cons.1 ht with rfl | ht
        · exact hf i hh
        · exact a1 t ht
      · split at ht
        · rename_i hh
          rcases List.mem_cons.1 ht with rfl | ht
          · exact hg k hh
          · exact a2 t ht
        · cases ht
theorem putT_c {c : Int} {m : M} {L : List T} (hL : Cok L) (h0 : 0 ≤ c) (h1 : c ≤ 100) : Cok (putT c m L) := by
  unfold putT
  split
  · exact hL
  · exact addI_c hL.at (fun _ _ => ⟨h0, h1⟩) _ _ _
theorem putT_len (c : Int) (m : M) (L : List T) : (putT c m L).length ≤ L.length + 1 := by
  unfold putT
  split
  · omega
  · have := addT_len (lf L) L.length (fun _ => ⟨c, m⟩) 1 0 0
    omega
theorem rd_one (w : World) (t : T) : Rd (w.alloc (.cells #[.int .i64 t.c, .int .i64 t.m.x, .int .i64 t.m.y, .int .i64 t.m.d, .int .i64 t.m.e] 27)) (some ⟨w.heap.size, 0, none⟩) 1 1 (fun _ => t) := by
  refine ⟨Nat.le_refl _, by omega, .inr ⟨w.heap.size, 0, rfl, by simp, fun i hi => ?_⟩⟩
  obtain rfl : i = 0 := by omega
  exact ⟨by rw [World.cell?_alloc_at _ _ _ _ rfl]; rfl, by rw [World.cell?_alloc_at _ _ _ _ rfl]; rfl, by rw [World.cell?_alloc_at _ _ _ _ rfl]; rfl, by rw [World.cell?_alloc_at _ _ _ _ rfl]; rfl, by rw [World.cell?_alloc_at _ _ _ _ rfl]; rfl⟩
set_option maxRecDepth 100000 in
set_option maxHeartbeats 2000000 in
theorem l4PutS (w : World) (lo : Nat) (v : Value) (L : List T) (c x y d e : Int) (ho : w.ownsRow lo 27 5 v L.length (cellsL L)) (hlo : lo ≤ w.heap.size) (hl : L.length ≤ 1000) (hL : Cok L) (h0 : 0 ≤ c) (h1 : c ≤ 100) :
    Calls Try.prog 51 #[v, .int .i64 c, .agg #[.int .i64 x, .int .i64 y, .int .i64 d, .int .i64 e]] w fun r w' => ∃ v', r = .returned v' ∧ Below w.heap.size w w' ∧ w'.ownsRow lo 27 5 v' (putT c ⟨x, y, d, e⟩ L).length (cellsL (putT c ⟨x, y, d, e⟩ L)) := by
  by_cases hc : c = 0
  · subst hc
    have e1 : putT 0 ⟨x, y, d, e⟩ L = L := by simp [putT]
    rw [e1]
    have HO := Hid.mk' (owns_below ho (bel_one w (.cells #[.int .i64 x, .int .i64 y, .int .i64 d, .int .i64 e] 25)))
    clear ho e1
    go_enter Try.func51, Try.ntmps51
    go_wp2
    go_ret
    exact ⟨_, rfl, bel_one w _, HO.out⟩
  · have hcb : (c == 0) = false := by simp [hc]
    have e1 : putT c ⟨x, y, d, e⟩ L = addT (lf L) L.length (fun _ => ⟨c, ⟨x, y, d, e⟩⟩) 1 0 0 := by simp [putT, hc]
    rw [e1]
    obtain ⟨a, cap, rfl, hout⟩ := out_of_owns ho (by omega)
    have HR := Hid.mk' hout.1
    clear ho hout hc e1
    go_enter Try.func51, Try.ntmps51
    go_wp2_with fail
    have ha := Hid.mk' ((HR.out.below (bel_one w (.cells #[.int .i64 x, .int .i64 y, .int .i64 d, .int .i64 e] 25))).below (bel_one _ (.cells #[.int .i64 c, .int .i64 x, .int .i64 y, .int .i64 d, .int .i64 e] 27)))
    have hb := rd_one (w.alloc (.cells #[.int .i64 x, .int .i64 y, .int .i64 d, .int .i64 e] 25)) ⟨c, ⟨x, y, d, e⟩⟩
    have hb2 : Rd ((w.alloc (.cells #[.int .i64 x, .int .i64 y, .int .i64 d, .int .i64 e] 25)).alloc (.cells #[.int .i64 c, .int .i64 x, .int .i64 y, .int .i64 d, .int .i64 e] 27)) (some ⟨w.heap.size + 1, 0, none⟩) 1 1 (fun _ => ⟨c, ⟨x, y, d, e⟩⟩) := by simpa using hb
    have hz := Hid.mk' (bel_next (bel_one w (.cells #[.int .i64 x, .int .i64 y, .int .i64 d, .int .i64 e] 25)) (bel_one _ (.cells #[.int .i64 c, .int .i64 x, .int .i64 y, .int .i64 d, .int .i64 e] 27)))
    clear hb
    generalize ((w.alloc (.cells #[.int .i64 x, .int .i64 y, .int .i64 d, .int .i64 e] 25)).alloc (.cells #[.int .i64 c, .int .i64 x, .int .i64 y, .int .i64 d, .int .i64 e] 27)) = W at ha hb2 hz ⊢
    refine (l3AddS _ _ _ _ _ _ _ (lf L) (fun _ => ⟨c, ⟨x, y, d, e⟩⟩) ha.out hb2 (by omega) hL.at (fun _ _ => ⟨h0, h1⟩)).mono ?_
    rintro r w1 ⟨v', rfl, hb1, hown⟩
    have HB := Hid.mk' (bel_next hz.out hb1)
    have HO := Hid.mk' (owns_lower hown (Nat.le_trans hlo hz.out.size))
    clear hb2 hb1 hown ha hz HR
    go_wp2
    go_ret
    exact ⟨_, rfl, HB.out, HO.out⟩
end Go.Proofs.Ytllfgoepfeoclaa
