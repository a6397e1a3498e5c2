/-
  The model reads operators (PolRead).
  A range over an iterator that turns boxes of its own (blocks lo .. hi); its body may leave the loop.
  The library's SplitSeq at a single byte: it gives the words of a text.
-/
import Derived.Test.YtkcmamepoplcdaaGreatDoorGaq
import Derived.Test.YtkcmamepoplcdaaGreatDoorGaa
import Derived.RangeFuncNested
import Derived.RangeFuncLeaves
import Derived.Shelf.Strings.Search3
import Derived.OwnWalkIn
import Derived.TacticsInMore
import Derived.LoopNIn
import Derived.LoopIn
import Derived.WalkKit
namespace Go.Proofs.YtkcmamepoplcdaaGreatDoor
open Go.RowKit
set_option linter.unusedVariables false
set_option linter.unusedSimpArgs false
theorem ctS_wT {s : List UInt8} (h : s.length ≤ 400) : (ctS s).map trmR = wT s := by unfold ctS wT; rw [if_pos h]
theorem ctS_bd (s : List UInt8) : (ctS s).length ≤ 401 := by
  unfold ctS
  split
  · have := cut_len s; omega
  · simp
theorem ctS_mem {s : List UInt8} {i : Nat} {l : List UInt8} (h : (ctS s)[i]? = some l) : l.length ≤ 400 := by
  unfold ctS at h
  split at h
  · have := cut_mem_len s l (List.mem_of_getElem? h); omega
  · simp at h
def PrI (w1 : World) (ts : List T) (v : Value) (wr : World) : Prop := wr.ownsRow w1.heap.size 79 5 v ts.length (cellsL ts) ∧ Below w1.heap.size w1 wr
theorem out_nil (w : World) (lo : Nat) (h : lo ≤ w.heap.size) : Out lo (w.alloc (.cells #[] 79)) (some ⟨w.heap.size, 0, none⟩) 0 [] := by
  obtain ⟨a, cap, e, ho⟩ := out_of_owns (L := []) (owns_none w lo h) (by simp)
  cases e
  exact ho
set_option maxRecDepth 100000 in
set_option maxHeartbeats 8000000 in
theorem polReadS (s : List UInt8) (hs : s.length ≤ 1048576) (w : World) :
    Calls Tryz.prog 35 #[.string ⟨s.toArray⟩] w fun r w' => ∃ a cap, r = .returned (.tuple #[.slice a (polR s).1.length cap, .bool (polR s).2]) ∧ Below w.heap.size w w' ∧ Out w.heap.size w' a cap (polR s).1 := by
  have hsI : (s.length : Int) ≤ 1048576 := by omega
  obtain ⟨i0, hi0, hz0, hz1, hz2⟩ := info_parts infoT
  by_cases h0 : s = [48]
  · subst h0
    rw [polR_zero]
    have HO := Hid.mk' (out_nil w w.heap.size (Nat.le_refl _))
    have HB := Hid.mk' (bel_one w (.cells #[] 79))
    go_enter Tryz.func35, Tryz.ntmps35
    go_wp2
    go_ret2
    exact ⟨_, _, rfl, HB.out, HO.out⟩
  · have h0b : (s == [48]) = false := beq_eq_false_iff_ne.2 h0
    have HC := Hid.mk' (l3CutS s hs w)
    have hbd := ctS_bd s
    have HM : Hid (∀ (i : Nat) (l : List UInt8), (ctS s)[i]? = some l → l.length ≤ 400) := Hid.mk' (fun i l h => ctS_mem h)
    have HCW : Hid (s.length ≤ 400 → (ctS s).map trmR = wT s) := Hid.mk' ctS_wT
    have HCZ : Hid (¬ s.length ≤ 400 → (ctS s) = []) := Hid.mk' (fun h => by unfold ctS; rw [if_neg h])
    obtain ⟨W, hW⟩ : ∃ W, ctS s = W := ⟨_, rfl⟩
    rw [hW] at HC hbd HM HCW HCZ
    obtain ⟨N, hN⟩ : ∃ N, W.length = N := ⟨_, rfl⟩
    rw [hN] at HC hbd
    have HH0 := Hid.mk' h0
    have HN := Hid.mk' hN
    obtain ⟨Rr, hRr⟩ : ∃ R, polR s = R := ⟨_, rfl⟩
    have HRR := Hid.mk' hRr
    rw [hRr]
    clear hW hN h0 hRr
    go_enter Tryz.func35, Tryz.ntmps35
    go_wp2_with fail
    refine HC.out.mono ?_
    rintro r w1 ⟨g, cp, rfl, how, hb1⟩
    have HOW := Hid.mk' how
    have HB1 := Hid.mk' hb1
    have hs1 := hb1.size
    have HI0 : Hid (PrI w1 [] (.slice (some ⟨w1.heap.size, 0, none⟩) 0 0) (w1.alloc (.cells #[] 79))) := ⟨owns_none w1 _ (Nat.le_refl _), bel_one w1 _⟩
    clear how hb1 HC
    go_wp2
    go_loopw [6, 5] (fun v6 v5 wr => ∃ (k g5 cp5 : Nat) (ts : List T), k ≤ N ∧ v6 = .int .i64 (k : Int) ∧ v5 = .slice (some ⟨g5, 0, none⟩) k cp5 ∧ Hid (ts.length = k ∧ ts = (W.take k).map trmR) ∧ Hid (PrI w1 ts (.slice (some ⟨g5, 0, none⟩) k cp5) wr)) (fun v6 _ _ => N - (intOf v6).toNat)
    case atStart => exact ⟨0, _, _, [], Nat.zero_le _, rfl, rfl, Hid.mk' ⟨rfl, rfl⟩, HI0⟩
    case round =>
      obtain ⟨k, g5, cp5, ts, hk, rfl, rfl, HT, HI⟩ := hrel
      have hs5 := HI.out.2.size
      by_cases hkl : k < N
      · have hkI : (k : Int) < (N : Int) := by omega
        obtain ⟨l, hl⟩ : ∃ l, W[k]? = some l := ⟨_, List.getElem?_eq_getElem (by rw [HN.out]; exact hkl)⟩
        have hll := HM.out k l hl
        have hcl := owt_cell (owns_below HOW.out HI.out.2) hl
        have htk : (W.take (k + 1)).map trmR = ts ++ [trmR l] := by
          rw [List.take_add_one, hl, HT.out.2]; simp
        have HTK := Hid.mk' htk
        obtain ⟨t, ht⟩ : ∃ t, trmR l = t := ⟨_, rfl⟩
        have HCT := Hid.mk' (l3TermS l (by omega) wr)
        rw [ht] at HCT HTK
        clear ht htk hl
        have hmax : k + 1 ≤ maxLen := by unfold maxLen; omega
        go_wp2_with fail
        refine HCT.out.mono ?_
        rintro r w3 ⟨rfl, hb3⟩
        have hO3 := owns_below HI.out.1 hb3
        have hB3 := bel_next HI.out.2 hb3
        have hs3 : w1.heap.size ≤ w3.heap.size := hB3.size
        have HO4 := Hid.mk' (hO3.alloc (.cells #[.int .i64 t.c, .int .i64 t.m.x, .int .i64 t.m.y, .int .i64 t.m.d, .int .i64 t.m.e] 79))
        have HB4 := Hid.mk' (hB3.alloc hs3 (.cells #[.int .i64 t.c, .int .i64 t.m.x, .int .i64 t.m.y, .int .i64 t.m.d, .int .i64 t.m.e] 79))
        have HNW := Hid.mk' (heap_alloc_new w3 (.cells #[.int .i64 t.c, .int .i64 t.m.x, .int .i64 t.m.y, .int .i64 t.m.d, .int .i64 t.m.e] 79))
        clear hb3 hO3 hB3 HCT hcl
        go_wp2_with (at_builtin; refine wpList_append_lies _ rfl (.tmp 19) (.tmp 25) 22 rfl w1.heap.size 79 i0 _ 5 40 Tryz.underlying22 hi0 hz0 hz1 hz2 rfl (by omega) _ k (cellsL ts) rfl (HT.out.1 ▸ HO4.out) ⟨w3.heap.size, 0, none⟩ 1 1 (cellsL [t]) rfl (by rw [cellsL_length]; rfl) (by rw [cellsL_one]; exact World.news_of_block HNW.out) (one_cells _) (by omega) hmax (by omega) (by simp; omega) _ rfl ?_; intro g1 cap1 w7 hown2 hgrow2 hat2 hlt2; have HO7 := Hid.mk' hown2; have HB7 := Hid.mk' (HB4.out.grown hgrow2 (by simp; omega) (fun k' e' => (HO4.out.lt k' e').1)); clear hown2 hgrow2 hat2 hlt2)
        go_roundw
        case rel => exact ⟨k + 1, g1, cap1, ts ++ [t], by omega, by go_num, rfl, Hid.mk' ⟨by simp [HT.out.1], HTK.out.symm⟩, Hid.mk' ⟨by
          have := HO7.out
          show World.ownsRow _ _ _ _ _ _ _
          rw [cellsL_append, List.length_append, HT.out.1]; exact this, HB7.out⟩⟩
        case measure => simp [intOf]; omega
      · have hke : k = N := by omega
        have hnl : ¬ (k : Int) < (N : Int) := by omega
        have HTE : Hid (ts = W.map trmR) := by
          have := HT.out.2
          rw [hke, ← HN.out, List.take_length] at this
          exact Hid.mk' this
        have HKL : Hid (ts.length = k) := Hid.mk' HT.out.1
        clear hke HT
        have HBw := Hid.mk' (bel_next HB1.out HI.out.2)
        by_cases hk0 : k = 0
        · have HZ : Hid (Rr = ([], false)) := by
            rw [← HRR.out]
            refine Hid.mk' (polR_no HH0.out (fun q => ?_))
            have e1 := HTE.out
            rw [HCW.out q.1] at e1
            have e2 := wT_len s
            rw [← e1, HKL.out, hk0] at e2
            exact cut_ne s (List.length_eq_zero_iff.1 e2.symm)
          have hk0b : ((k : Int) == 0) = true := by rw [hk0]; rfl
          have HOo := Hid.mk' (out_nil wr w.heap.size HBw.out.size)
          have HBo := Hid.mk' (HBw.out.alloc HBw.out.size (.cells #[] 79))
          clear hk0
          go_wp2
          go_ret2
          exact ⟨_, _, by rw [HZ.out]; rfl, HBo.out, by rw [HZ.out]; exact HOo.out⟩
        · have hk0b : ((k : Int) == 0) = false := beq_eq_false_iff_ne.2 (by omega)
          have HL4 : Hid (s.length ≤ 400) := Hid.mk' <| Decidable.byContradiction fun q => hk0 (by
            have := HTE.out
            rw [HCZ.out q] at this
            rw [← HKL.out, this]; rfl)
          have HTW : Hid (ts = wT s) := by rw [HTE.out]; exact Hid.mk' (HCW.out HL4.out)
          obtain ⟨a5, c5, hv5, hout⟩ := out_of_owns (owns_lower HI.out.1 hs1) (by rw [HKL.out]; omega)
          rw [HKL.out] at hv5
          cases hv5
          have HOUT := Hid.mk' hout
          have hrd := hout.1
          rw [HKL.out] at hrd
          have HRD := Hid.mk' hrd
          obtain ⟨ok, hok⟩ : ∃ b, polOk k (lf ts) = b := ⟨_, rfl⟩
          have HOKC := Hid.mk' (polOkS wr _ _ _ _ hrd)
          rw [hok] at HOKC
          have HOK := Hid.mk' hok
          clear hout hrd hok
          go_wp2_with fail
          refine HOKC.out.mono ?_
          rintro r w4 ⟨rfl, hb4⟩
          have HB4 := Hid.mk' (bel_next HBw.out hb4)
          have HOUT4 := Hid.mk' (HOUT.out.below hb4)
          have HRD4 := Hid.mk' (HRD.out.below hb4)
          clear hb4 HOKC
          cases ok
          · have HZ : Hid (Rr = ([], false)) := by
              rw [← HRR.out]
              refine Hid.mk' (polR_no HH0.out (fun q => ?_))
              have e1 := q.2.1
              rw [← HTW.out, HKL.out, HOK.out] at e1
              cases e1
            have HOo := Hid.mk' (out_nil w4 w.heap.size HB4.out.size)
            have HBo := Hid.mk' (HB4.out.alloc HB4.out.size (.cells #[] 79))
            go_wp2
            go_ret2
            exact ⟨_, _, by rw [HZ.out]; rfl, HBo.out, by rw [HZ.out]; exact HOo.out⟩
          · obtain ⟨S, hS⟩ : ∃ S, polT k (lf ts) = S := ⟨_, rfl⟩
            have HTC := Hid.mk' (polTextS w4 _ _ _ _ HRD4.out)
            rw [hS] at HTC
            have HS := Hid.mk' hS
            clear hS
            go_wp2_with fail
            refine HTC.out.mono ?_
            rintro r w5 ⟨rfl, hb5⟩
            have HB5 := Hid.mk' (bel_next HB4.out hb5)
            have HOUT5 := Hid.mk' (HOUT4.out.below hb5)
            clear hb5 HTC
            by_cases q : S = s
            · have HZ : Hid (Rr = (ts, true)) := by
                rw [← HRR.out]
                have e1 := polR_yes HH0.out HL4.out (by rw [← HTW.out, HKL.out]; exact HOK.out) (by rw [← HTW.out, HKL.out, HS.out]; exact q)
                rw [← HTW.out] at e1
                exact Hid.mk' e1
              clear HS HM HCW HCZ HN HTE HTW HRR
              subst q
              go_wp2
              go_ret2
              exact ⟨_, _, by rw [HZ.out, HKL.out]; rfl, HB5.out, by rw [HZ.out]; exact HOUT5.out⟩
            · have HZ : Hid (Rr = ([], false)) := by
                rw [← HRR.out]
                refine Hid.mk' (polR_no HH0.out (fun z => q ?_))
                have e1 := z.2.2
                rw [← HTW.out, HKL.out, HS.out] at e1
                exact e1
              have q1 : (S == s) = false := beq_eq_false_iff_ne.2 q
              have HOo := Hid.mk' (out_nil w5 w.heap.size HB5.out.size)
              have HBo := Hid.mk' (HB5.out.alloc HB5.out.size (.cells #[] 79))
              clear HS q
              go_wp2
              go_ret2
              exact ⟨_, _, by rw [HZ.out]; rfl, HBo.out, by rw [HZ.out]; exact HOo.out⟩
end Go.Proofs.YtkcmamepoplcdaaGreatDoor
namespace Go.Proofs.YtkcmamepoplcdaaGreatDoor
open Go.RowKit
set_option linter.unusedVariables false
theorem rndSp {m m' : Nat} {P : Program} {l : Nat} {f : FuncId} {tmps : Array Value} {assign body : Code} {w : World} {R : Ending → World → Prop} (h : RoundIn Fence.wide m P l f tmps assign body w R) : RoundIn Fence.wide m' P l f tmps assign body w R := ⟨h.1, fun c cs _ => h.2 c cs (room_wide _)⟩
theorem yldB {m : Nat} (m' : Nat) {P : Program} {l : Nat} {args : Array Value} {W : World} {R : Ending → World → Prop} (h : YieldAt Fence.wide m P l args W R) : YieldAt Fence.wide m' P l args W R := by
  obtain ⟨fn, tmps, assign, body, hy, hR⟩ := h
  exact ⟨fn, tmps, assign, body, hy, rndSp hR⟩
/-- nothing from lo to hi has turned. -/
def KpB (lo hi : Nat) (A B : World) : Prop := A.heap.size ≤ B.heap.size ∧ ∀ k, lo ≤ k → k < hi → B.heap[k]? = A.heap[k]?
theorem KpB.trans {lo hi : Nat} {A B C : World} (h : KpB lo hi A B) (g : KpB lo hi B C) : KpB lo hi A C := ⟨Nat.le_trans h.1 g.1, fun k a b => (g.2 k a b).trans (h.2 k a b)⟩
theorem KpB.put {lo hi l : Nat} (hl : hi ≤ l) (W : World) (o : Obj) : KpB lo hi W (W.putObj l o) := ⟨by simp, fun k _ h => World.putObj_heap_other (by omega)⟩
theorem KpB.below {lo hi n : Nat} {A B : World} (h : Below n A B) (hn : hi ≤ n) : KpB lo hi A B := ⟨h.size, fun k _ hk => h.block k (by omega)⟩
theorem KpB.refl (lo hi : Nat) (A : World) : KpB lo hi A A := ⟨Nat.le_refl _, fun _ _ _ => rfl⟩
theorem KpB.grown {lo hi : Nat} {A B : World} {row : Option Nat} (hg : A.grownBy B row) (hh : hi ≤ A.heap.size) (hr : ∀ k, row = some k → k < lo ∨ hi ≤ k) : KpB lo hi A B :=
  ⟨hg.size, fun k a b => hg.block k (by omega) (fun e => by have := hr k e.symm; omega)⟩
/-- the iterator g, with lb captured, gives xs, and turns only its boxes. -/
def SeqB {α : Type} (P : Program) (g : Nat) (lb : Array Value) (encs : α → Array Value) (lo hi : Nat) (xs : List α) (w : World) : Prop :=
  ∀ (l : Nat) (J Jx : List α → World → Prop) (W : World), Below w.heap.size w W → OwnFrom W.heap.size J → (∀ pre A k v, lo ≤ k → k < hi → J pre A → J pre (A.setCell ⟨k, 0, none⟩ v)) →
    (∀ pre x W1, J pre W1 → pre ++ [x] <+: xs → YieldAt Fence.wide 0 P l (encs x) W1 fun e W' => (e = .returned (.bool true) ∧ J (pre ++ [x]) W' ∧ KpB lo hi W1 W') ∨ (e = .returned (.bool false) ∧ Jx (pre ++ [x]) W')) →
    J [] W → Calls P g (#[.func (.yield l) #[] #[]] ++ lb) W fun e W' => (∃ v, e = .returned v) ∧ (J xs W' ∨ ∃ pre, pre <+: xs ∧ Jx pre W')
def postB {α : Type} (B lo hi : Nat) (I : List α → World → Prop) (Ix : Code → List α → World → Prop) (xs : List α) (W : World) : Exit → Act → World → Prop
  | .normal, _, W' => KeepsFrom B W W' ∧ KpB lo hi W W' ∧ I xs W'
  | .ret, _, W' => KeepsFrom B W W' ∧ Ix .ret xs W'
  | _, _, _ => False
theorem kfs {B : Nat} {W W' : World} (h : KeepsFrom B W W') {k : Nat} {o : Obj} (hk : B ≤ k) (h0 : W.heap[k]? = some o) (ho : o.isCells = false) : W'.heap[k]? = some o := h.same k o hk h0 ho
theorem own_kept {W W' : World} {row : Option Nat} {B : Nat} (hg : W.grownBy W' row) (hr : ∀ r, row = some r → B ≤ r) {k : Nat} {o : Obj} (hk : W.heap[k]? = some o) (hkB : k < B) : W'.heap[k]? = some o :=
  (hg.block k (Array.getElem?_eq_some_iff.1 hk).1 (fun e => by have := hr k e.symm; omega)).trans hk
set_option maxHeartbeats 1000000 in
theorem rangeB {α : Type} {P : Program} {n : Nat} {g : Operand} {ps : Array Tmp} {assign body : Code} {Q : Exit → Act → World → Prop} {a : Act} {w : World} (h1 : 1 ≤ n) {gf : Nat} {lb : Array Value} (hg : a.eval g = .func (.func gf) #[] lb)
    (eg : ∀ args w, (callFunc gf args).run P w = .ok (.enter gf args) w) {encs : α → Array Value} {lo hi : Nat} {xs : List α} {w0 : World} (hseq : SeqB P gf lb encs lo hi xs w0) (hb0 : Below w0.heap.size w0 w) (hhi : hi ≤ w.heap.size) (hps : ∀ x, (encs x).size = ps.size)
    (I : List α → World → Prop) (Ix : Code → List α → World → Prop) (hI : OwnFrom w.heap.size I) (hIb : ∀ pre A k v, lo ≤ k → k < hi → I pre A → I pre (A.setCell ⟨k, 0, none⟩ v)) (hIx : ∀ c, OwnFrom w.heap.size (Ix c)) (h0 : I [] w) (Ax : α → Act → World → Prop) (hAx : ∀ x a', OwnFrom w.heap.size (fun (_ : Unit) W => Ax x a' W))
    (hassign : ∀ (l : Nat) (pre : List α) (x : α) (W : World) (K : Act → World → Prop), I pre W → (∀ a' W', KeepsFrom w.heap.size W W' → KpB lo hi W W' → I pre W' → Ax x a' W' → K a' W') →
      assign.wpIn (Fence.wide.inRound l) 0 P (Exit.then K (fun _ _ _ => False)) { tmps := (ps.zip (encs x)).foldl (fun t (p, v) => t.setIfInBounds p v) a.tmps, defers := [] } W)
    (hbody : ∀ (l : Nat) (pre : List α) (x : α) (a' : Act) (W : World), I pre W → Ax x a' W → pre ++ [x] <+: xs → body.wpIn (Fence.wide.inRound l) 0 P (postB w.heap.size lo hi I Ix (pre ++ [x]) W) a' W)
    (hdone : ∀ (D : Nat) (W : World), w.heap.size ≤ D → I xs W → W.heap[D]? = some (.deferred (some [])) → Q .normal { a with defers := { target := .collected D, args := #[] } :: a.defers } W)
    (hstop : ∀ (D : Nat) (c : Code) (pre : List α) (W : World), w.heap.size ≤ D → pre <+: xs → Ix c pre W → W.heap[D]? = some (.deferred (some [])) → c.wpIn Fence.wide n P Q { a with defers := { target := .collected D, args := #[] } :: a.defers } W) :
    (Code.rangeFunc g ps assign body).wpIn Fence.wide n P Q a w := by
  refine wpIn_rangeFunc ?_
  intro fn hfn
  obtain ⟨rec, hrec⟩ : ∃ rec : LoopState → Option Code → Loop, rec = fun st pe => { state := st, pending := pe, fn, tmps := a.tmps, params := ps, assign, body, defers := w.heap.size } := ⟨_, rfl⟩
  obtain ⟨W1, hW1⟩ : ∃ W1, (w.alloc (.deferred (some []))).alloc (.loop (rec .ready none)) = W1 := ⟨_, rfl⟩
  have hs1 : W1.heap.size = w.heap.size + 2 := by rw [← hW1]; simp
  have hL1 : W1.heap[w.heap.size + 1]? = some (.loop (rec .ready none)) := by
    rw [← hW1]
    have := World.alloc_heap_new (w.alloc (.deferred (some []))) (.loop (rec .ready none))
    rwa [World.size_alloc] at this
  have hK1 : W1.heap[w.heap.size]? = some (.deferred (some [])) := by
    rw [← hW1]
    exact (Below.heap_alloc _ _ _ (by simp)).trans (World.alloc_heap_new w _)
  have hI1 : I [] W1 := by rw [← hW1]; exact hI.alloc _ (hI.alloc _ h0)
  have hb1 : Below w0.heap.size w0 W1 := by
    rw [← hW1]
    exact hb0.trans ((((Below.refl _ w).alloc (Nat.le_refl _) _).alloc (by simp) _).mono hb0.size)
  refine ⟨w.heap.size + 1, [{ target := .collected w.heap.size, args := #[] }], W1, { target := .fn (.func gf) lb, args := #[.func (.yield (w.heap.size + 1)) #[] #[]] }, W1, gf,
    #[.func (.yield (w.heap.size + 1)) #[] #[]] ++ lb, W1, ?_, ?_, ?_, ?_, fun _ => h1, ?_⟩
  · rw [← hW1, hrec]; exact run_enterLoop_outer _ _ _ _ _
  · simp only [resolve, hg]
    simp [go_sem]
  · intro f' _; exact trivial
  · simp [invoke, go_sem, eg]
  · refine callsIn_wide.2 ((hseq (w.heap.size + 1)
      (fun pre W => I pre W ∧ W.heap[w.heap.size + 1]? = some (.loop (rec .ready none)) ∧ W.heap[w.heap.size]? = some (.deferred (some [])))
      (fun pre W => ∃ c, Ix c pre W ∧ W.heap[w.heap.size + 1]? = some (.loop (rec .done (some c))) ∧ W.heap[w.heap.size]? = some (.deferred (some []))) W1 hb1
      (fun s A B row hs hg' hr => ⟨hI s A B row hs.1 hg' (fun r e => ⟨by have := (hr r e).1; omega, (hr r e).2⟩), own_kept hg' (B := W1.heap.size) (fun r e => (hr r e).1) hs.2.1 (by omega), own_kept hg' (B := W1.heap.size) (fun r e => (hr r e).1) hs.2.2 (by omega)⟩)
      (fun pre A k v a1 a2 hs => ⟨hIb pre A k v a1 a2 hs.1, (Below.heap_setCell _ _ _ _ (by simp; omega)).trans hs.2.1, (Below.heap_setCell _ _ _ _ (by simp; omega)).trans hs.2.2⟩)
      ?_ ⟨hI1, hL1, hK1⟩).mono ?_)
    · rintro pre x W ⟨hi', hl, hk⟩ hpre
      have hy := run_yield (P := P) (args := encs x) hl (by rw [hrec]; exact hps x)
      rw [hrec] at hy
      refine ⟨fn, _, assign, body, hy, roundIn_of_wpIn hfn (hassign _ pre x W _ hi' ?_)⟩
      clear hy
      intro a' Wa hkfa hkpa hia hax
      have hla := kfs hkfa (by omega) hl rfl
      have hka := kfs hkfa (Nat.le_refl _) hk rfl
      have hlt : w.heap.size + 1 < Wa.heap.size := (Array.getElem?_eq_some_iff.1 hla).1
      refine ⟨_, run_beginRound hla (by rw [hrec]), ?_⟩
      have hl2 : (Wa.putObj (w.heap.size + 1) (.loop { rec .ready none with state := .busy })).heap[w.heap.size + 1]? = some (.loop { rec .ready none with state := .busy }) := World.putObj_heap_same hlt
      have hk2 : (Wa.putObj (w.heap.size + 1) (.loop { rec .ready none with state := .busy })).heap[w.heap.size]? = some (.deferred (some [])) := (World.putObj_heap_other (by omega)).trans hka
      have hw2 : KpB lo hi Wa (Wa.putObj (w.heap.size + 1) (.loop { rec .ready none with state := .busy })) := KpB.put (by omega) _ _
      refine wpIn_mono (hbody _ pre x a' _ (hI.putObj _ hia (by omega) hla rfl) ((hAx x a').putObj (s := ()) _ hax (by omega) hla rfl) hpre) ?_
      have fin : ∀ (jump : Option Code) (W3 : World), KeepsFrom w.heap.size (Wa.putObj (w.heap.size + 1) (.loop { rec .ready none with state := .busy })) W3 →
          (Instr.endRound (w.heap.size + 1) jump).run P W3 = .ok (.bool jump.isNone) (W3.putObj (w.heap.size + 1) (.loop (rec (if jump.isNone then .ready else .done) jump))) ∧
          W3.heap[w.heap.size + 1]? = some (.loop { rec .ready none with state := .busy }) ∧
          (W3.putObj (w.heap.size + 1) (.loop (rec (if jump.isNone then .ready else .done) jump))).heap[w.heap.size + 1]? = some (.loop (rec (if jump.isNone then .ready else .done) jump)) ∧
          (W3.putObj (w.heap.size + 1) (.loop (rec (if jump.isNone then .ready else .done) jump))).heap[w.heap.size]? = some (.deferred (some [])) := fun jump W3 hk3 => by
        have hl3 := kfs hk3 (by omega) hl2 rfl
        have := run_endRound (P := P) jump hl3
        rw [hrec] at this ⊢
        exact ⟨this, by rw [hrec] at hl3; exact hl3, World.putObj_heap_same (Array.getElem?_eq_some_iff.1 hl3).1, (World.putObj_heap_other (by omega)).trans (kfs hk3 (Nat.le_refl _) hk2 rfl)⟩
      rintro e a3 W3 hp
      cases e with
      | normal =>
        obtain ⟨hk3, hkp3, hi3⟩ := hp
        obtain ⟨hr, hl3, hl4, hk4⟩ := fin none W3 hk3
        exact ⟨_, _, hr, .inl ⟨rfl, ⟨hI.putObj _ hi3 (by omega) hl3 rfl, hl4, hk4⟩, (hkpa.trans hw2).trans (hkp3.trans (KpB.put (by omega) _ _))⟩⟩
      | ret =>
        obtain ⟨hk3, hi3⟩ := hp
        obtain ⟨hr, hl3, hl4, hk4⟩ := fin (some .ret) W3 hk3
        exact ⟨_, _, hr, .inr ⟨rfl, .ret, (hIx _).putObj _ hi3 (by omega) hl3 rfl, hl4, hk4⟩⟩
      | exit id => exact hp.elim
      | goto t => exact hp.elim
      | panic ch => exact hp.elim
      | outgrown => exact hp.elim
    · rintro e W2 ⟨⟨v, rfl⟩, (⟨hi', hl, hk⟩ | ⟨pre, hSp, c, hi', hl, hk⟩)⟩
      · exact ⟨none, _, by have := run_endLoop (P := P) hl (by rw [hrec]; simp); rw [hrec] at this; exact this, hdone _ _ (Nat.le_refl _) (hI.putObj _ hi' (by omega) hl rfl) ((World.putObj_heap_other (by omega)).trans hk)⟩
      · exact ⟨some c, _, by have := run_endLoop (P := P) hl (by rw [hrec]; simp); rw [hrec] at this; exact this, hstop _ c pre _ (Nat.le_refl _) hSp ((hIx c).putObj _ hi' (by omega) hl rfl) ((World.putObj_heap_other (by omega)).trans hk)⟩
end Go.Proofs.YtkcmamepoplcdaaGreatDoor
namespace Go.Proofs.YtkcmamepoplcdaaGreatDoor
open Go.Shelf Go.RowKit
set_option linter.unusedVariables false
set_option linter.unusedSimpArgs false
theorem ix_none : ∀ {l : List UInt8}, Lib.indexByte l 43 < 0 → cutL l = [l]
  | [], _ => rfl
  | b :: l, h => by
    unfold Lib.indexByte at h
    split at h
    · omega
    · rename_i hb
      have hb' : b ≠ 43 := by simpa using hb
      split at h
      · rename_i h1
        have h1' : Lib.indexByte l 43 = -1 := by simpa using h1
        rw [cut_c, if_neg hb', ix_none (l := l) (by omega)]
        rfl
      · have := Lib.indexByte_ge l 43
        omega
theorem ix_some : ∀ {l : List UInt8} {i : Nat}, Lib.indexByte l 43 = (i : Int) → i + 1 ≤ l.length ∧ cutL l = l.take i :: cutL (l.drop (i + 1))
  | [], i, h => by unfold Lib.indexByte at h; omega
  | b :: l, i, h => by
    unfold Lib.indexByte at h
    split at h
    · rename_i hb
      have hb' : b = 43 := by simpa using hb
      have hi : i = 0 := by omega
      subst hi hb'
      refine ⟨by simp, ?_⟩
      rw [cut_c, if_pos rfl]
      rfl
    · rename_i hb
      have hb' : b ≠ 43 := by simpa using hb
      split at h
      · omega
      · obtain ⟨j, rfl⟩ : ∃ j, i = j + 1 := ⟨i - 1, by
          have := Lib.indexByte_ge l 43
          rename_i h1
          have h1' : Lib.indexByte l 43 ≠ -1 := by simpa using h1
          omega⟩
        obtain ⟨h2, h3⟩ := ix_some (l := l) (i := j) (by omega)
        refine ⟨by simp; omega, ?_⟩
        rw [cut_c, if_neg hb', h3]
        rfl
shelf_lay Lays.n143 Nm 143 at Tryz as lay143
theorem indexI (l : List UInt8) (w : World) : Calls Tryz.prog 97 #[.string ⟨l.toArray⟩, .string ⟨#[43]⟩] w fun e w' => e = .returned (.int .i64 (Lib.indexByte l 43)) ∧ w' = w := Any.strings_Index_one lay143 ⟨l.toArray⟩ 43 w
def encS (x : List UInt8) : Array Value := #[.string ⟨x.toArray⟩]
/-- the three boxes of the iterator. -/
def Bx3 (W : World) (lo : Nat) (l : List UInt8) : Prop := Boxed W lo 9 (.string ⟨l.toArray⟩) ∧ Boxed W (lo + 1) 9 (.string ⟨#[43]⟩) ∧ Boxed W (lo + 2) 3 (.int .i64 0)
theorem Bx3.keep {W W' : World} {lo : Nat} {l : List UInt8} (h : Bx3 W lo l) (hk : KpB lo (lo + 3) W W') : Bx3 W' lo l := ⟨(hk.2 _ (by omega) (by omega)).trans h.1, (hk.2 _ (by omega) (by omega)).trans h.2.1, (hk.2 _ (by omega) (by omega)).trans h.2.2⟩
theorem Bx3.set {W : World} {lo : Nat} {l : List UInt8} (h : Bx3 W lo l) (l' : List UInt8) : Bx3 (W.setCell ⟨lo, 0, none⟩ (.string ⟨l'.toArray⟩)) lo l' := ⟨h.1.set _, h.2.1.other (by omega) _, h.2.2.other (by omega) _⟩
def szC (lo : Nat) (W : World) : Nat := match W.cell? ⟨lo, 0, none⟩ with | some (.string b) => b.size | _ => 0
theorem szC_is {W : World} {lo : Nat} {l : List UInt8} (h : Bx3 W lo l) : szC lo W = l.length := by
  unfold szC
  rw [h.1.cell]
  exact ba_size l
set_option maxRecDepth 100000 in
set_option maxHeartbeats 4000000 in
theorem splitI (s : List UInt8) (hs : s.length ≤ 1048576) (lo : Nat) (w : World) (hb : Bx3 w lo s) :
    SeqB Tryz.prog 179 #[.pointer (some ⟨lo + 1, 0, none⟩), .pointer (some ⟨lo, 0, none⟩), .pointer (some ⟨lo + 2, 0, none⟩)] encS lo (lo + 3) (cutL s) w := by
  intro l J Jx W hW hJ hJb hY h0
  have hlt : lo + 2 < w.heap.size := hb.2.2.lt
  have hB0 : Bx3 W lo s := hb.keep (KpB.below hW (by omega))
  have HJ := Hid.mk' hJ
  have HJB := Hid.mk' hJb
  have HY : Hid (∀ pre x W1, J pre W1 → pre ++ [x] <+: cutL s → YieldAt Fence.wide 8 Tryz.prog l (#[.string ⟨x.toArray⟩]) W1 fun e W' => (e = .returned (.bool true) ∧ J (pre ++ [x]) W' ∧ KpB lo (lo + 3) W1 W') ∨ (e = .returned (.bool false) ∧ Jx (pre ++ [x]) W')) := Hid.mk' (fun pre x W1 a b => yldB 8 (hY pre x W1 a b))
  clear hJ hJb hY hW hb
  refine (callsIn_wide (n := 9)).1 ?_
  refine callsIn_of_wp Tryz.func179 rfl trivial ?_ rfl
  simp only [Tryz.ntmps179, List.size_toArray, List.length_cons, List.length_nil, Nat.reduceAdd, Nat.reduceSub, Array.replicate_succ, Array.replicate_zero, List.push_toArray, List.append_toArray, List.nil_append, List.cons_append]
  have c1 := hB0.2.1.cell
  gi_wp2
  clear c1
  gi_loopw [7] (fun v wr => ∃ (lr : List UInt8) (pre : List (List UInt8)), lr.length ≤ 1048576 ∧ Hid (pre ++ cutL lr = cutL s) ∧ Hid (J pre wr) ∧ Hid (Bx3 wr lo lr)) (fun _ wr => szC lo wr)
  case atStart => exact ⟨s, [], hs, Hid.mk' rfl, Hid.mk' h0, Hid.mk' hB0⟩
  case round =>
    obtain ⟨lr, pre, hlr, HC, HJP, HB⟩ := hrel
    have HSZ := Hid.mk' (szC_is HB.out)
    obtain ⟨b1, b2, b3⟩ := HB.out
    have c1 := b1.cell
    have c2 := b2.cell
    have c3 := b3.cell
    have z1 := b1.frozen
    clear b1 b2 b3
    have hix := indexI lr wr
    by_cases hn : Lib.indexByte lr 43 < 0
    · have HCE : Hid (pre ++ [lr] = cutL s) := by rw [← HC.out, ix_none hn]; exact Hid.mk' rfl
      obtain ⟨fn, tmps, assign, body, hyl, hRd⟩ := HY.out pre lr wr HJP.out (by rw [HCE.out]; exact List.prefix_rfl)
      obtain ⟨iv, hiv⟩ : ∃ iv, Lib.indexByte lr 43 = iv := ⟨_, rfl⟩
      rw [hiv] at hn hix
      have HIX := Hid.mk' hix
      clear hiv hix
      gi_wp2_with (first
        | (refine ⟨trivial, ?_⟩; gi_at_call 97; refine (callsIn_wide.2 HIX.out).mono ?_; rintro e w4 ⟨rfl, hw4⟩; obtain rfl := hw4.symm; clear hw4)
        | gi_in)
      refine hRd.mono ?_
      rintro e W3 (⟨rfl, hJ3, hk3⟩ | ⟨rfl, hJx3⟩)
      · gi_wp2
        go_end0
        exact ⟨⟨_, rfl⟩, .inl (by rw [← HCE.out]; exact hJ3)⟩
      · gi_wp2
        go_end0
        exact ⟨⟨_, rfl⟩, .inr ⟨_, by rw [HCE.out]; exact List.prefix_rfl, hJx3⟩⟩
    · obtain ⟨i, hi⟩ : ∃ i : Nat, Lib.indexByte lr 43 = (i : Int) := ⟨(Lib.indexByte lr 43).toNat, by omega⟩
      obtain ⟨hil, hcut⟩ := ix_some hi
      have HCE : Hid ((pre ++ [lr.take i]) ++ cutL (lr.drop (i + 1)) = cutL s) := by
        rw [← HC.out, hcut]
        exact Hid.mk' (by simp)
      obtain ⟨fr, hfr⟩ : ∃ fr, lr.take i = fr := ⟨_, rfl⟩
      obtain ⟨re, hre⟩ : ∃ re, lr.drop (i + 1) = re := ⟨_, rfl⟩
      have hrel : re.length < lr.length := by rw [← hre]; simp; omega
      have hto := fun u => str_to (l := lr) (k := i) (by omega) u
      have hfm := fun u => str_from1 (l := lr) (k := i) hil u
      rw [hfr] at HCE hto
      rw [hre] at HCE hfm
      rw [hi] at hix
      have HIX := Hid.mk' hix
      have hiI : (i : Int) ≤ 1048576 := by omega
      obtain ⟨fn, tmps, assign, body, hyl, hRd⟩ := HY.out pre fr wr HJP.out (by rw [← HCE.out]; exact ⟨_, rfl⟩)
      clear hix hi hcut hfr hre hn
      gi_wp2_with (first
        | (refine ⟨trivial, ?_⟩; gi_at_call 97; refine (callsIn_wide.2 HIX.out).mono ?_; rintro e w4 ⟨rfl, hw4⟩; obtain rfl := hw4.symm; clear hw4)
        | gi_in)
      refine hRd.mono ?_
      rintro e W3 (⟨rfl, hJ3, hk3⟩ | ⟨rfl, hJx3⟩)
      · have hB3 := HB.out.keep hk3
        obtain ⟨b1, b2, b3⟩ := hB3
        clear c1 c2 c3 z1
        have c1 := b1.cell
        have c2 := b2.cell
        have c3 := b3.cell
        have z1 := b1.frozen
        have HB4 := Hid.mk' (Bx3.set ⟨b1, b2, b3⟩ re)
        have HJ4 := Hid.mk' (HJB.out _ _ lo (.string ⟨re.toArray⟩) (Nat.le_refl _) (by omega) hJ3)
        clear b1 b2 b3 hk3 hJ3
        gi_wp2
        go_roundw
        case rel => exact ⟨re, pre ++ [fr], by omega, HCE, HJ4, HB4⟩
        case measure =>
          have h1 := szC_is HB4.out
          have h2 := HSZ.out
          omega
      · gi_wp2
        refine bodyPost_ret (results_none rfl _ _ _) rfl ?_
        exact ⟨⟨_, rfl⟩, .inr ⟨_, by rw [← HCE.out]; exact ⟨_, rfl⟩, hJx3⟩⟩
end Go.Proofs.YtkcmamepoplcdaaGreatDoor
