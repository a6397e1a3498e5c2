/-
  The slope of a form, in the program.
-/
import Derived.Test.YtnfimnfaejjagaaSlopeS
import Derived.Test.YtnfimnfaejjagaaGam
import Derived.Deep.RegionHeld3
import Derived.Deep.RegionWith
namespace Go.Proofs.Ytnfimnfaejjagaa
open Go.RowKit
set_option linter.unusedVariables false

def C5a (w : World) (b : Nat) (t : T) : Prop := w.cell? ⟨b, 0, none⟩ = some (.int .i64 t.c) ∧ w.cell? ⟨b, 1, none⟩ = some (.int .i64 t.m.x) ∧ w.cell? ⟨b, 2, none⟩ = some (.int .i64 t.m.y) ∧ w.cell? ⟨b, 3, none⟩ = some (.int .i64 t.m.d) ∧ w.cell? ⟨b, 4, none⟩ = some (.int .i64 t.m.e)
/-- the cells of a term and of a monomial beside it. -/
def SS (u : World) (b g : Nat) (t : T) (x y d e : Int) : Prop := u.cell? ⟨b, 0, none⟩ = some (.int .i64 t.c) ∧ u.cell? ⟨b, 1, none⟩ = some (.int .i64 t.m.x) ∧ u.cell? ⟨b, 2, none⟩ = some (.int .i64 t.m.y) ∧ u.cell? ⟨b, 3, none⟩ = some (.int .i64 t.m.d) ∧ u.cell? ⟨b, 4, none⟩ = some (.int .i64 t.m.e) ∧ u.cell? ⟨g, 0, none⟩ = some (.int .i64 x) ∧ u.cell? ⟨g, 1, none⟩ = some (.int .i64 y) ∧ u.cell? ⟨g, 2, none⟩ = some (.int .i64 d) ∧ u.cell? ⟨g, 3, none⟩ = some (.int .i64 e)
theorem SS.same {u u' : World} {b g : Nat} {t : T} {x y d e : Int} (h : SS u b g t x y d e) (hb : u'.heap[b]? = u.heap[b]?) (hg : u'.heap[g]? = u.heap[g]?) : SS u' b g t x y d e := by
  obtain ⟨h0, h1, h2, h3, h4, h5, h6, h7, h8⟩ := h
  have cb : ∀ o, u'.cell? ⟨b, o, none⟩ = u.cell? ⟨b, o, none⟩ := fun o => World.cell?_of_block hb
  have cg : ∀ o, u'.cell? ⟨g, o, none⟩ = u.cell? ⟨g, o, none⟩ := fun o => World.cell?_of_block hg
  exact ⟨(cb 0).trans h0, (cb 1).trans h1, (cb 2).trans h2, (cb 3).trans h3, (cb 4).trans h4, (cg 0).trans h5, (cg 1).trans h6, (cg 2).trans h7, (cg 3).trans h8⟩
theorem ss_below {u u' : World} {b g : Nat} {t : T} {x y d e : Int} (hb : Below u.heap.size u u') (h : SS u b g t x y d e) : SS u' b g t x y d e := h.same (hb.block b (World.block_lt_of_cell? u _ h.1)) (hb.block g (World.block_lt_of_cell? u _ h.2.2.2.2.2.1))
theorem ss_alloc {u : World} {o : Obj} {b g : Nat} {t : T} {x y d e : Int} (h : SS u b g t x y d e) : SS (u.alloc o) b g t x y d e := ss_below (bel_one u o) h
theorem ss_drew {u : World} {b g : Nat} {t : T} {x y d e : Int} (h : SS u b g t x y d e) : SS u.drew b g t x y d e := ss_below (Below.refl _ _).drew h
theorem ss_grown {u u' : World} {row : Option Nat} {b g : Nat} {t : T} {x y d e : Int} (hg : u.grownBy u' row) (hb : some b ≠ row) (hg2 : some g ≠ row) (h : SS u b g t x y d e) : SS u' b g t x y d e := h.same (hg.block b (World.block_lt_of_cell? u _ h.1) hb) (hg.block g (World.block_lt_of_cell? u _ h.2.2.2.2.2.1) hg2)
theorem ssb {ua u : World} {b g : Nat} {t : T} {x y d e : Int} (hb : Below ua.heap.size ua u) (h : SS ua b g t x y d e) : SS u b g t x y d e := ss_below hb h
theorem ss_mk {wq u : World} {b g : Nat} {t : T} {x y d e : Int} (h : C5a wq b t) (hb : wq.heap.size > b) (hbu : Below wq.heap.size wq u) (hm : M4 u g x y d e) : SS u b g t x y d e :=
  ⟨(hbu.cell (p := ⟨b, 0, none⟩) hb).trans h.1, (hbu.cell (p := ⟨b, 1, none⟩) hb).trans h.2.1, (hbu.cell (p := ⟨b, 2, none⟩) hb).trans h.2.2.1, (hbu.cell (p := ⟨b, 3, none⟩) hb).trans h.2.2.2.1, (hbu.cell (p := ⟨b, 4, none⟩) hb).trans h.2.2.2.2, hm.1, hm.2.1, hm.2.2.1, hm.2.2.2⟩
set_option maxRecDepth 100000 in
set_option maxHeartbeats 8000000 in
theorem actSlopeI0 (w : World) (a : Option Addr) (n cap : Nat) (f : Nat → T) (h : Rd w a n cap f) (hp : polFree n f = true) :
    Calls Try.prog 21 #[.slice a n cap, .int .i64 0] w fun r w' => ∃ v, r = .returned v ∧ Below w.heap.size w w' ∧ w'.ownsRow w.heap.size 36 5 v (slT 0 f n).length (cellsL (slT 0 f n)) := by
  obtain ⟨i0, hi0, hz0, hz1, hz2⟩ := info_parts infoT
  have hok := polFree_ok hp
  have HM := Hid.mk' (polOk_m hok)
  obtain ⟨hl, hc⟩ := polOk_c hok
  have HC := Hid.mk' hc
  have HR := Hid.mk' h
  obtain ⟨h1, h2, h3⟩ := h
  have hn : (n : Int) ≤ 400 := by omega
  clear hok hc
  go_enter Try.func21, Try.ntmps21
  go_wp2_with fail
  have HR1 := Hid.mk' (HR.out.below (bel_one w (.cells #[.int .i64 1, .int .i64 0, .int .i64 0, .int .i64 0, .int .i64 0, .int .i64 1, .int .i64 0, .int .i64 0] 34)))
  have HB1 := Hid.mk' (bel_one w (.cells #[.int .i64 1, .int .i64 0, .int .i64 0, .int .i64 0, .int .i64 0, .int .i64 1, .int .i64 0, .int .i64 0] 34))
  have ht : ∀ i v, #[Value.int .i64 1, .int .i64 0, .int .i64 0, .int .i64 0, .int .i64 0, .int .i64 1, .int .i64 0, .int .i64 0][i]? = some v → (w.alloc (.cells #[.int .i64 1, .int .i64 0, .int .i64 0, .int .i64 0, .int .i64 0, .int .i64 1, .int .i64 0, .int .i64 0] 34)).cell? ⟨w.heap.size, i, none⟩ = some v := fun i v hv => by rw [World.cell?_alloc_at _ _ _ _ rfl]; exact hv
  have HT := Hid.mk' (And.intro (ht 0 _ rfl) (And.intro (ht 1 _ rfl) (And.intro (ht 2 _ rfl) (ht 3 _ rfl))))
  have hsW : w.heap.size < (w.alloc (.cells #[.int .i64 1, .int .i64 0, .int .i64 0, .int .i64 0, .int .i64 0, .int .i64 1, .int .i64 0, .int .i64 0] 34)).heap.size := by simp
  have hsW2 : (w.alloc (.cells #[.int .i64 1, .int .i64 0, .int .i64 0, .int .i64 0, .int .i64 0, .int .i64 1, .int .i64 0, .int .i64 0] 34)).heap.size ≤ w.heap.size + 1 := by simp
  clear ht
  generalize (w.alloc (.cells #[.int .i64 1, .int .i64 0, .int .i64 0, .int .i64 0, .int .i64 0, .int .i64 1, .int .i64 0, .int .i64 0] 34)) = W at HR1 HB1 HT hsW hsW2 ⊢
  refine (polFreeI _ _ _ _ f HR1.out).mono ?_
  rw [hp]
  rintro r w1 ⟨rfl, hb⟩
  have HB2 := Hid.mk' (bel_next HB1.out hb)
  have HW2 := Hid.mk' hb
  clear hb HB1 HR1
  go_wp2
  go_loopw [6, 29] (fun v i wr => ∃ j : Nat, j ≤ n ∧ i = .int .i64 j ∧ wr.ownsRow (w.heap.size + 1) 36 5 v (slT 0 f j).length (cellsL (slT 0 f j)) ∧ Below W.heap.size W wr ∧ Below w.heap.size w wr) (fun _ i _ => n - (intOf i).toNat)
  case atStart => exact ⟨0, Nat.zero_le _, rfl, ownsT_nil _ _, HW2.out, HB2.out⟩
  case round =>
    obtain ⟨j, hj, rfl, ho, hW, hB⟩ := hrel
    by_cases hlt : j < n
    · rcases h3 with h0 | ⟨b, off, rfl, hblt, hcl⟩
      · omega
      have hjn : (j : Int) < (n : Int) := by omega
      obtain ⟨g0, g1, g2, g3, g4⟩ := (hcl j hlt).below hB hblt
      obtain ⟨x1, x2, y1, y2, d1, d2, e1, e2⟩ := M.ok_iff.1 (HM.out j hlt)
      obtain ⟨c1, c2⟩ := HC.out j hlt
      have HO := Hid.mk' ho
      have HB := Hid.mk' hB
      have HW := Hid.mk' hW
      have HLN := Hid.mk' (slT_len 0 f j)
      have hsz1 : W.heap.size ≤ wr.heap.size := hW.size
      clear ho hcl hB hW
      go_wp2_with fail
      have HBQ := Hid.mk' (bel_next HB.out (bel_one wr (.cells #[.int .i64 (f j).c, .int .i64 (f j).m.x, .int .i64 (f j).m.y, .int .i64 (f j).m.d, .int .i64 (f j).m.e] 36)))
      have HWQ := Hid.mk' (bel_next HW.out (bel_one wr (.cells #[.int .i64 (f j).c, .int .i64 (f j).m.x, .int .i64 (f j).m.y, .int .i64 (f j).m.d, .int .i64 (f j).m.e] 36)))
      have HOQ := Hid.mk' (owns_below HO.out (bel_one wr (.cells #[.int .i64 (f j).c, .int .i64 (f j).m.x, .int .i64 (f j).m.y, .int .i64 (f j).m.d, .int .i64 (f j).m.e] 36)))
      have hq : ∀ i v, #[Value.int .i64 (f j).c, Value.int .i64 (f j).m.x, Value.int .i64 (f j).m.y, Value.int .i64 (f j).m.d, Value.int .i64 (f j).m.e][i]? = some v → (wr.alloc (.cells #[.int .i64 (f j).c, .int .i64 (f j).m.x, .int .i64 (f j).m.y, .int .i64 (f j).m.d, .int .i64 (f j).m.e] 36)).cell? ⟨wr.heap.size, i, none⟩ = some v := fun i v hv => by rw [World.cell?_alloc_at _ _ _ _ rfl]; exact hv
      have q0 := hq 0 _ rfl
      have q1 := hq 1 _ rfl
      have q2 := hq 2 _ rfl
      have q3 := hq 3 _ rfl
      have q4 := hq 4 _ rfl
      have hszq : (wr.alloc (.cells #[.int .i64 (f j).c, .int .i64 (f j).m.x, .int .i64 (f j).m.y, .int .i64 (f j).m.d, .int .i64 (f j).m.e] 36)).heap.size > wr.heap.size := by simp
      clear hq g0 g1 g2 g3 g4
      generalize (wr.alloc (.cells #[.int .i64 (f j).c, .int .i64 (f j).m.x, .int .i64 (f j).m.y, .int .i64 (f j).m.d, .int .i64 (f j).m.e] 36)) = wq at HBQ HWQ HOQ q0 q1 q2 q3 q4 hszq ⊢
      have t0 := (HWQ.out.cell (p := ⟨w.heap.size, 0, none⟩) hsW).trans HT.out.1
      have t1 := (HWQ.out.cell (p := ⟨w.heap.size, 1, none⟩) hsW).trans HT.out.2.1
      have t2 := (HWQ.out.cell (p := ⟨w.heap.size, 2, none⟩) hsW).trans HT.out.2.2.1
      have t3 := (HWQ.out.cell (p := ⟨w.heap.size, 3, none⟩) hsW).trans HT.out.2.2.2
      have HQ : Hid (C5a wq wr.heap.size (f j)) := ⟨q0, q1, q2, q3, q4⟩
      have hwq : w.heap.size < wq.heap.size := by omega
      by_cases hc : 1 ≤ (f j).m.x
      · have hov : M.over ⟨(f j).m.x, (f j).m.y, (f j).m.d, (f j).m.e⟩ ⟨1, 0, 0, 0⟩ = (⟨((f j).m.x - 1), (f j).m.y, (f j).m.d, (f j).m.e⟩, true) := by
          have hd : M.dvd ⟨1, 0, 0, 0⟩ ⟨(f j).m.x, (f j).m.y, (f j).m.d, (f j).m.e⟩ = true := by
            have ho1 : M.ok ⟨1, 0, 0, 0⟩ = true := by decide
            have ho2 : M.ok ⟨(f j).m.x, (f j).m.y, (f j).m.d, (f j).m.e⟩ = true := M.ok_iff.2 (by dsimp only; omega)
            simp only [M.dvd, ho1, ho2, Bool.and_self, Bool.true_and, decide_eq_true_eq]
            omega
          rw [M.over, if_pos hd]
          simp [M.diff]
        have HCT := monOverI (f j).m.x (f j).m.y (f j).m.d (f j).m.e 1 0 0 0
        rw [hov] at HCT
        have HCT2 := Hid.mk' HCT
        clear HCT hov
        refine Code.wp_mono (Q := fun e b0 u => match e with | Exit.normal => (∃ g : Nat, b0 = { tmps := #[Value.slice (some ⟨b, off, none⟩) n cap, Value.int IntKind.i64 0, undef, undef, Value.slice none 0 0, Value.slice (some ⟨w.heap.size, 0, none⟩) 2 2, u6, undef, Value.pointer (some ⟨wr.heap.size, 0, none⟩), Value.pointer (some ⟨g, 0, none⟩), Value.bool true, Value.agg #[Value.int IntKind.i64 1, Value.int IntKind.i64 0, Value.int IntKind.i64 0, Value.int IntKind.i64 0], Value.agg #[Value.int IntKind.i64 0, Value.int IntKind.i64 1, Value.int IntKind.i64 0, Value.int IntKind.i64 0], Value.slice (some ⟨w.heap.size, 0, none⟩) 2 2, Value.int IntKind.i64 0, Value.bool false, Value.bool false, Value.int IntKind.i64 0, Value.slice (some ⟨w.heap.size, 0, none⟩) 2 2, Value.int IntKind.i64 2, Value.bool false, Value.bool false, Value.bool false, Value.slice (some ⟨b, off, none⟩) n cap, Value.bool true, Value.bool false, Value.bool false, Value.slice (some ⟨b, off, none⟩) n cap, Value.int IntKind.i64 (n : Int), Value.int IntKind.i64 (j : Int), Value.bool true, Value.pointer (some ⟨b, off + j * 5, none⟩), Value.agg #[Value.int IntKind.i64 (f j).c, Value.int IntKind.i64 (f j).m.x, Value.int IntKind.i64 (f j).m.y, Value.int IntKind.i64 (f j).m.d, Value.int IntKind.i64 (f j).m.e], Value.tuple #[Value.agg #[Value.int IntKind.i64 ((f j).m.x - 1), Value.int IntKind.i64 (f j).m.y, Value.int IntKind.i64 (f j).m.d, Value.int IntKind.i64 (f j).m.e], Value.bool true], Value.pointer (some ⟨wr.heap.size, 1, none⟩), Value.agg #[Value.int IntKind.i64 (f j).m.x, Value.int IntKind.i64 (f j).m.y, Value.int IntKind.i64 (f j).m.d, Value.int IntKind.i64 (f j).m.e], Value.slice (some ⟨w.heap.size, 0, none⟩) 2 2, Value.int IntKind.i64 0, Value.pointer (some ⟨w.heap.size, 0, none⟩), Value.agg #[Value.int IntKind.i64 1, Value.int IntKind.i64 0, Value.int IntKind.i64 0, Value.int IntKind.i64 0], Value.tuple #[Value.agg #[Value.int IntKind.i64 ((f j).m.x - 1), Value.int IntKind.i64 (f j).m.y, Value.int IntKind.i64 (f j).m.d, Value.int IntKind.i64 (f j).m.e], Value.bool true], Value.agg #[Value.int IntKind.i64 ((f j).m.x - 1), Value.int IntKind.i64 (f j).m.y, Value.int IntKind.i64 (f j).m.d, Value.int IntKind.i64 (f j).m.e], Value.bool true, u43, u44, u45, u46, u47, u48, u49, u50, u51, u52, u53, u54, u55, u56, u57, undef], defers := [] } ∧ M4 u g ((f j).m.x - 1) ((f j).m.y) ((f j).m.d) ((f j).m.e) ∧ wr.heap.size < g ∧ Below wq.heap.size wq u) | _ => False) ?_ ?_
        rotate_left
        · go_region_with (go_at_call 51; refine (HCT2.out _).mono ?_; rintro e w4 ⟨rfl, b4⟩; obtain ⟨hc4, hf4⟩ := bcell b4; have hs4 := b4.size; (try simp at hs4); have hl4 : wq.heap.size ≤ w4.heap.size := (by omega); (try (have hl5 : wq.heap.size < w4.heap.size := (by omega))))
          all_goals
            refine ⟨_, rfl, ⟨by go_simp, by go_simp, by go_simp, by go_simp⟩, by omega, ?_⟩
            first
              | exact bel_next (bel_next (Below.refl _ _).drew b4) (bel_one w4 _)
              | exact bel_set4 (bel_next (bel_next (bel_one wq _) (Below.refl _ _).drew) b4) (Nat.le_refl _) _ _ _ _
        · intro e b0 ua hh
          cases e with
          | normal =>
            obtain ⟨g, rfl, hm, hg, hbu⟩ := hh
            have hSS : SS ua wr.heap.size g (f j) ((f j).m.x - 1) ((f j).m.y) ((f j).m.d) ((f j).m.e) := ss_mk HQ.out hszq hbu hm
            have HOU := Hid.mk' (owns_below HOQ.out hbu)
            have HBU := Hid.mk' (bel_next HBQ.out hbu)
            have HWU := Hid.mk' (bel_next HWQ.out hbu)
            have hsu : wq.heap.size ≤ ua.heap.size := hbu.size
            have hidx : ∀ w0 : World, (Instr.index 71 (.agg #[.int .i64 (f j).m.x, .int .i64 (f j).m.y, .int .i64 (f j).m.d, .int .i64 (f j).m.e]) (.int .i64 0)).run Try.prog w0 = .ok (.int .i64 (f j).m.x) w0 := fun _ => by kernel_rfl
            have HSL : Hid (slT 0 f (j + 1) = slT 0 f j ++ [⟨(f j).c * (f j).m.x % 101, ⟨((f j).m.x - 1), (f j).m.y, (f j).m.d, (f j).m.e⟩⟩]) := by
              show _ = _
              simp only [slT, slO]
              rw [if_pos (show 1 ≤ cntK 0 (f j).m from hc)]
              rfl
            clear hm hbu HQ q0 q1 q2 q3 q4 t0 t1 t2 t3 HOQ HBQ HWQ HCT2
            go_wp2_with fail
            have hPm : ∀ (k : Nat) (u u' : World) (v : Value), (fun k (u : World) (v : Value) => match k with | 0 => v = u6 | 1 => v = Value.pointer (some ⟨wr.heap.size, 0, none⟩) | 2 => v = Value.int IntKind.i64 (f j).c | 3 => v = Value.pointer (some ⟨wr.heap.size, 1, none⟩) | 4 => v = Value.agg #[Value.int IntKind.i64 (f j).m.x, Value.int IntKind.i64 (f j).m.y, Value.int IntKind.i64 (f j).m.d, Value.int IntKind.i64 (f j).m.e] | 5 => v = Value.agg #[Value.int IntKind.i64 (f j).m.x, Value.int IntKind.i64 (f j).m.y, Value.int IntKind.i64 (f j).m.d, Value.int IntKind.i64 (f j).m.e] | 6 => v = Value.int IntKind.i64 0 | 7 => v = Value.int IntKind.i64 (f j).m.x | 8 => v = Value.int IntKind.i64 ((f j).c * (f j).m.x % 101) | 9 => v = Value.agg #[Value.int IntKind.i64 ((f j).m.x - 1), Value.int IntKind.i64 (f j).m.y, Value.int IntKind.i64 (f j).m.d, Value.int IntKind.i64 (f j).m.e] | 10 => v = Value.agg #[Value.int IntKind.i64 ((f j).c * (f j).m.x % 101), Value.int IntKind.i64 ((f j).m.x - 1), Value.int IntKind.i64 (f j).m.y, Value.int IntKind.i64 (f j).m.d, Value.int IntKind.i64 (f j).m.e] | 11 => (∃ bb : Nat, v = .slice (some ⟨bb, 0, none⟩) 1 1 ∧ bb < u.heap.size ∧ u.heap[bb]? = some (.cells #[.int .i64 ((f j).c * (f j).m.x % 101), .int .i64 ((f j).m.x - 1), .int .i64 (f j).m.y, .int .i64 (f j).m.d, .int .i64 (f j).m.e] 36)) | _ => True) k u v → Below u.heap.size u u' → (fun k (u : World) (v : Value) => match k with | 0 => v = u6 | 1 => v = Value.pointer (some ⟨wr.heap.size, 0, none⟩) | 2 => v = Value.int IntKind.i64 (f j).c | 3 => v = Value.pointer (some ⟨wr.heap.size, 1, none⟩) | 4 => v = Value.agg #[Value.int IntKind.i64 (f j).m.x, Value.int IntKind.i64 (f j).m.y, Value.int IntKind.i64 (f j).m.d, Value.int IntKind.i64 (f j).m.e] | 5 => v = Value.agg #[Value.int IntKind.i64 (f j).m.x, Value.int IntKind.i64 (f j).m.y, Value.int IntKind.i64 (f j).m.d, Value.int IntKind.i64 (f j).m.e] | 6 => v = Value.int IntKind.i64 0 | 7 => v = Value.int IntKind.i64 (f j).m.x | 8 => v = Value.int IntKind.i64 ((f j).c * (f j).m.x % 101) | 9 => v = Value.agg #[Value.int IntKind.i64 ((f j).m.x - 1), Value.int IntKind.i64 (f j).m.y, Value.int IntKind.i64 (f j).m.d, Value.int IntKind.i64 (f j).m.e] | 10 => v = Value.agg #[Value.int IntKind.i64 ((f j).c * (f j).m.x % 101), Value.int IntKind.i64 ((f j).m.x - 1), Value.int IntKind.i64 (f j).m.y, Value.int IntKind.i64 (f j).m.d, Value.int IntKind.i64 (f j).m.e] | 11 => (∃ bb : Nat, v = .slice (some ⟨bb, 0, none⟩) 1 1 ∧ bb < u.heap.size ∧ u.heap[bb]? = some (.cells #[.int .i64 ((f j).c * (f j).m.x % 101), .int .i64 ((f j).m.x - 1), .int .i64 (f j).m.y, .int .i64 (f j).m.d, .int .i64 (f j).m.e] 36)) | _ => True) k u' v := by
              intro k u u' v hv hb
              split at hv <;> first | exact hv | (obtain ⟨bb, h1, h2, h3⟩ := hv; exact ⟨bb, h1, Nat.lt_of_lt_of_le h2 hb.size, (hb.block bb h2).trans h3⟩)
            refine Code.wp_mono (Q := fun e b0 u => match e with | Exit.normal => (∃ vs : Nat → Value, b0 = { tmps := #[Value.slice (some ⟨b, off, none⟩) n cap, Value.int IntKind.i64 0, undef, undef, Value.slice none 0 0, Value.slice (some ⟨w.heap.size, 0, none⟩) 2 2, vs 13, undef, Value.pointer (some ⟨wr.heap.size, 0, none⟩), Value.pointer (some ⟨g, 0, none⟩), Value.bool true, Value.agg #[Value.int IntKind.i64 1, Value.int IntKind.i64 0, Value.int IntKind.i64 0, Value.int IntKind.i64 0], Value.agg #[Value.int IntKind.i64 0, Value.int IntKind.i64 1, Value.int IntKind.i64 0, Value.int IntKind.i64 0], Value.slice (some ⟨w.heap.size, 0, none⟩) 2 2, Value.int IntKind.i64 0, Value.bool false, Value.bool false, Value.int IntKind.i64 0, Value.slice (some ⟨w.heap.size, 0, none⟩) 2 2, Value.int IntKind.i64 2, Value.bool false, Value.bool false, Value.bool false, Value.slice (some ⟨b, off, none⟩) n cap, Value.bool true, Value.bool false, Value.bool false, Value.slice (some ⟨b, off, none⟩) n cap, Value.int IntKind.i64 (n : Int), Value.int IntKind.i64 (j : Int), Value.bool true, Value.pointer (some ⟨b, off + j * 5, none⟩), Value.agg #[Value.int IntKind.i64 (f j).c, Value.int IntKind.i64 (f j).m.x, Value.int IntKind.i64 (f j).m.y, Value.int IntKind.i64 (f j).m.d, Value.int IntKind.i64 (f j).m.e], Value.tuple #[Value.agg #[Value.int IntKind.i64 ((f j).m.x - 1), Value.int IntKind.i64 (f j).m.y, Value.int IntKind.i64 (f j).m.d, Value.int IntKind.i64 (f j).m.e], Value.bool true], Value.pointer (some ⟨wr.heap.size, 1, none⟩), Value.agg #[Value.int IntKind.i64 (f j).m.x, Value.int IntKind.i64 (f j).m.y, Value.int IntKind.i64 (f j).m.d, Value.int IntKind.i64 (f j).m.e], Value.slice (some ⟨w.heap.size, 0, none⟩) 2 2, Value.int IntKind.i64 0, Value.pointer (some ⟨w.heap.size, 0, none⟩), Value.agg #[Value.int IntKind.i64 1, Value.int IntKind.i64 0, Value.int IntKind.i64 0, Value.int IntKind.i64 0], Value.tuple #[Value.agg #[Value.int IntKind.i64 ((f j).m.x - 1), Value.int IntKind.i64 (f j).m.y, Value.int IntKind.i64 (f j).m.d, Value.int IntKind.i64 (f j).m.e], Value.bool true], Value.agg #[Value.int IntKind.i64 ((f j).m.x - 1), Value.int IntKind.i64 (f j).m.y, Value.int IntKind.i64 (f j).m.d, Value.int IntKind.i64 (f j).m.e], Value.bool true, Value.bool true, vs 0, vs 1, vs 2, vs 3, vs 4, vs 5, vs 6, vs 7, vs 8, vs 9, vs 10, vs 11, vs 12, u57, undef], defers := [] } ∧ (fun u v => u.ownsRow (w.heap.size + 1) 36 5 v (slT 0 f (j + 1)).length (cellsL (slT 0 f (j + 1))) ∧ Below W.heap.size W u ∧ Below w.heap.size w u) u (vs 13)) | _ => False) ?_ ?_
            rotate_left
            · refine wp_region_rg (fun vs : Nat → Value => ({ tmps := #[Value.slice (some ⟨b, off, none⟩) n cap, Value.int IntKind.i64 0, undef, undef, Value.slice none 0 0, Value.slice (some ⟨w.heap.size, 0, none⟩) 2 2, vs 13, undef, Value.pointer (some ⟨wr.heap.size, 0, none⟩), Value.pointer (some ⟨g, 0, none⟩), Value.bool true, Value.agg #[Value.int IntKind.i64 1, Value.int IntKind.i64 0, Value.int IntKind.i64 0, Value.int IntKind.i64 0], Value.agg #[Value.int IntKind.i64 0, Value.int IntKind.i64 1, Value.int IntKind.i64 0, Value.int IntKind.i64 0], Value.slice (some ⟨w.heap.size, 0, none⟩) 2 2, Value.int IntKind.i64 0, Value.bool false, Value.bool false, Value.int IntKind.i64 0, Value.slice (some ⟨w.heap.size, 0, none⟩) 2 2, Value.int IntKind.i64 2, Value.bool false, Value.bool false, Value.bool false, Value.slice (some ⟨b, off, none⟩) n cap, Value.bool true, Value.bool false, Value.bool false, Value.slice (some ⟨b, off, none⟩) n cap, Value.int IntKind.i64 (n : Int), Value.int IntKind.i64 (j : Int), Value.bool true, Value.pointer (some ⟨b, off + j * 5, none⟩), Value.agg #[Value.int IntKind.i64 (f j).c, Value.int IntKind.i64 (f j).m.x, Value.int IntKind.i64 (f j).m.y, Value.int IntKind.i64 (f j).m.d, Value.int IntKind.i64 (f j).m.e], Value.tuple #[Value.agg #[Value.int IntKind.i64 ((f j).m.x - 1), Value.int IntKind.i64 (f j).m.y, Value.int IntKind.i64 (f j).m.d, Value.int IntKind.i64 (f j).m.e], Value.bool true], Value.pointer (some ⟨wr.heap.size, 1, none⟩), Value.agg #[Value.int IntKind.i64 (f j).m.x, Value.int IntKind.i64 (f j).m.y, Value.int IntKind.i64 (f j).m.d, Value.int IntKind.i64 (f j).m.e], Value.slice (some ⟨w.heap.size, 0, none⟩) 2 2, Value.int IntKind.i64 0, Value.pointer (some ⟨w.heap.size, 0, none⟩), Value.agg #[Value.int IntKind.i64 1, Value.int IntKind.i64 0, Value.int IntKind.i64 0, Value.int IntKind.i64 0], Value.tuple #[Value.agg #[Value.int IntKind.i64 ((f j).m.x - 1), Value.int IntKind.i64 (f j).m.y, Value.int IntKind.i64 (f j).m.d, Value.int IntKind.i64 (f j).m.e], Value.bool true], Value.agg #[Value.int IntKind.i64 ((f j).m.x - 1), Value.int IntKind.i64 (f j).m.y, Value.int IntKind.i64 (f j).m.d, Value.int IntKind.i64 (f j).m.e], Value.bool true, Value.bool true, vs 0, vs 1, vs 2, vs 3, vs 4, vs 5, vs 6, vs 7, vs 8, vs 9, vs 10, vs 11, vs 12, u57, undef], defers := [] } : Act)) (fun k (u : World) (v : Value) => match k with | 0 => v = u6 | 1 => v = Value.pointer (some ⟨wr.heap.size, 0, none⟩) | 2 => v = Value.int IntKind.i64 (f j).c | 3 => v = Value.pointer (some ⟨wr.heap.size, 1, none⟩) | 4 => v = Value.agg #[Value.int IntKind.i64 (f j).m.x, Value.int IntKind.i64 (f j).m.y, Value.int IntKind.i64 (f j).m.d, Value.int IntKind.i64 (f j).m.e] | 5 => v = Value.agg #[Value.int IntKind.i64 (f j).m.x, Value.int IntKind.i64 (f j).m.y, Value.int IntKind.i64 (f j).m.d, Value.int IntKind.i64 (f j).m.e] | 6 => v = Value.int IntKind.i64 0 | 7 => v = Value.int IntKind.i64 (f j).m.x | 8 => v = Value.int IntKind.i64 ((f j).c * (f j).m.x % 101) | 9 => v = Value.agg #[Value.int IntKind.i64 ((f j).m.x - 1), Value.int IntKind.i64 (f j).m.y, Value.int IntKind.i64 (f j).m.d, Value.int IntKind.i64 (f j).m.e] | 10 => v = Value.agg #[Value.int IntKind.i64 ((f j).c * (f j).m.x % 101), Value.int IntKind.i64 ((f j).m.x - 1), Value.int IntKind.i64 (f j).m.y, Value.int IntKind.i64 (f j).m.d, Value.int IntKind.i64 (f j).m.e] | 11 => (∃ bb : Nat, v = .slice (some ⟨bb, 0, none⟩) 1 1 ∧ bb < u.heap.size ∧ u.heap[bb]? = some (.cells #[.int .i64 ((f j).c * (f j).m.x % 101), .int .i64 ((f j).m.x - 1), .int .i64 (f j).m.y, .int .i64 (f j).m.d, .int .i64 (f j).m.e] 36)) | _ => True) 14 12 ua (fun u v => u.ownsRow (w.heap.size + 1) 36 5 v (slT 0 f (j + 1)).length (cellsL (slT 0 f (j + 1))) ∧ Below W.heap.size W u ∧ Below w.heap.size w u) u6 (by kernel_rfl) ?_ ?_ ?_
              · exact RG.start (fun k => if k = 13 then u6 else [u44, u45, u46, u47, u48, u49, u50, u51, u52, u53, u54, u55, u56].getD k undef) rfl rfl
              · intro l b0 u hI i hi
                obtain ⟨vs, rfl, hv0, hsz, hcl, hf, hy, hy1⟩ := hI
                have HV := Hid.mk' hv0
                clear hv0
                have hl0 := (mem_ready.1 hi).1
                have hi14 : i < 14 := by
                  obtain ⟨_, o, ho, _⟩ := mem_ready.1 hi
                  exact (Array.getElem?_eq_some_iff.1 ho).1
                rcases (show i = 0 ∨ i = 1 ∨ i = 2 ∨ i = 3 ∨ i = 4 ∨ i = 5 ∨ i = 6 ∨ i = 7 ∨ i = 8 ∨ i = 9 ∨ i = 10 ∨ i = 11 ∨ i = 12 ∨ i = 13 from by omega) with rfl | rfl | rfl | rfl | rfl | rfl | rfl | rfl | rfl | rfl | rfl | rfl | rfl | rfl
                · have hA : l.getD 12 false = false := by
                    cases hx : l.getD 12 false
                    · rfl
                    · have hx0 := hcl.dep (i := 12) rfl hx 0 (by kernel_rfl)
                      exact (not_doneG hl0 hx0).elim
                  have hA1 : l.getD (12 + 1) false = false := by
                    cases hx : l.getD (12 + 1) false
                    · rfl
                    · have hx0 := hcl.dep (i := 13) rfl hx 12 (by kernel_rfl)
                      rw [hA] at hx0; cases hx0
                  have hbu := (hf hA).1
                  have e13 : vs 13 = u6 := HV.out hA1
                  refine wpOp_step rfl (fun K hK => ?_)
                  go_simp
                  refine hK _ _ ?_
                  exact RG.step 0 (u6) hPm hi rfl hA hA1 (by decide) hsz hcl HV.out hf (Below.refl _ u) rfl (by first | (rw [← e13]; done) | (rw [← e13]; rfl))
                · have hA : l.getD 12 false = false := by
                    cases hx : l.getD 12 false
                    · rfl
                    · have hx0 := hcl.dep (i := 12) rfl hx 11 (by kernel_rfl)
                      have hx1 := hcl.dep (i := 11) rfl hx0 10 (by kernel_rfl)
                      have hx2 := hcl.dep (i := 10) rfl hx1 8 (by kernel_rfl)
                      have hx3 := hcl.dep (i := 8) rfl hx2 2 (by kernel_rfl)
                      have hx4 := hcl.dep (i := 2) rfl hx3 1 (by kernel_rfl)
                      exact (not_doneG hl0 hx4).elim
                  have hA1 : l.getD (12 + 1) false = false := by
                    cases hx : l.getD (12 + 1) false
                    · rfl
                    · have hx0 := hcl.dep (i := 13) rfl hx 12 (by kernel_rfl)
                      rw [hA] at hx0; cases hx0
                  have hbu := (hf hA).1
                  refine wpOp_step rfl (fun K hK => ?_)
                  go_simp
                  refine hK _ _ ?_
                  exact RG.step 1 (Value.pointer (some ⟨wr.heap.size, 0, none⟩)) hPm hi rfl hA hA1 (by decide) hsz hcl HV.out hf (Below.refl _ u) rfl rfl
                · have hA : l.getD 12 false = false := by
                    cases hx : l.getD 12 false
                    · rfl
                    · have hx0 := hcl.dep (i := 12) rfl hx 11 (by kernel_rfl)
                      have hx1 := hcl.dep (i := 11) rfl hx0 10 (by kernel_rfl)
                      have hx2 := hcl.dep (i := 10) rfl hx1 8 (by kernel_rfl)
                      have hx3 := hcl.dep (i := 8) rfl hx2 2 (by kernel_rfl)
                      exact (not_doneG hl0 hx3).elim
                  have hA1 : l.getD (12 + 1) false = false := by
                    cases hx : l.getD (12 + 1) false
                    · rfl
                    · have hx0 := hcl.dep (i := 13) rfl hx 12 (by kernel_rfl)
                      rw [hA] at hx0; cases hx0
                  have hbu := (hf hA).1
                  have e1 : vs 1 = Value.pointer (some ⟨wr.heap.size, 0, none⟩) := (hf hA).2 1 (ready_depG hi rfl 1 (by kernel_rfl))
                  obtain ⟨p0, p1, p2, p3, p4, p5, p6, p7, p8⟩ := ssb hbu hSS
                  refine wpOp_step rfl (fun K hK => ?_)
                  go_simp
                  refine hK _ _ ?_
                  exact RG.step 2 (Value.int IntKind.i64 (f j).c) hPm hi rfl hA hA1 (by decide) hsz hcl HV.out hf (Below.refl _ u) rfl (by first | (rw [← e1]; done) | (rw [← e1]; rfl))
                · have hA : l.getD 12 false = false := by
                    cases hx : l.getD 12 false
                    · rfl
                    · have hx0 := hcl.dep (i := 12) rfl hx 11 (by kernel_rfl)
                      have hx1 := hcl.dep (i := 11) rfl hx0 10 (by kernel_rfl)
                      have hx2 := hcl.dep (i := 10) rfl hx1 8 (by kernel_rfl)
                      have hx3 := hcl.dep (i := 8) rfl hx2 7 (by kernel_rfl)
                      have hx4 := hcl.dep (i := 7) rfl hx3 5 (by kernel_rfl)
                      have hx5 := hcl.dep (i := 5) rfl hx4 4 (by kernel_rfl)
                      have hx6 := hcl.dep (i := 4) rfl hx5 3 (by kernel_rfl)
                      exact (not_doneG hl0 hx6).elim
                  have hA1 : l.getD (12 + 1) false = false := by
                    cases hx : l.getD (12 + 1) false
                    · rfl
                    · have hx0 := hcl.dep (i := 13) rfl hx 12 (by kernel_rfl)
                      rw [hA] at hx0; cases hx0
                  have hbu := (hf hA).1
                  refine wpOp_step rfl (fun K hK => ?_)
                  go_simp
                  refine hK _ _ ?_
                  exact RG.step 3 (Value.pointer (some ⟨wr.heap.size, 1, none⟩)) hPm hi rfl hA hA1 (by decide) hsz hcl HV.out hf (Below.refl _ u) rfl rfl
                · have hA : l.getD 12 false = false := by
                    cases hx : l.getD 12 false
                    · rfl
                    · have hx0 := hcl.dep (i := 12) rfl hx 11 (by kernel_rfl)
                      have hx1 := hcl.dep (i := 11) rfl hx0 10 (by kernel_rfl)
                      have hx2 := hcl.dep (i := 10) rfl hx1 8 (by kernel_rfl)
                      have hx3 := hcl.dep (i := 8) rfl hx2 7 (by kernel_rfl)
                      have hx4 := hcl.dep (i := 7) rfl hx3 5 (by kernel_rfl)
                      have hx5 := hcl.dep (i := 5) rfl hx4 4 (by kernel_rfl)
                      exact (not_doneG hl0 hx5).elim
                  have hA1 : l.getD (12 + 1) false = false := by
                    cases hx : l.getD (12 + 1) false
                    · rfl
                    · have hx0 := hcl.dep (i := 13) rfl hx 12 (by kernel_rfl)
                      rw [hA] at hx0; cases hx0
                  have hbu := (hf hA).1
                  have e3 : vs 3 = Value.pointer (some ⟨wr.heap.size, 1, none⟩) := (hf hA).2 3 (ready_depG hi rfl 3 (by kernel_rfl))
                  obtain ⟨p0, p1, p2, p3, p4, p5, p6, p7, p8⟩ := ssb hbu hSS
                  refine wpOp_step rfl (fun K hK => ?_)
                  go_simp
                  refine hK _ _ ?_
                  exact RG.step 4 (Value.agg #[Value.int IntKind.i64 (f j).m.x, Value.int IntKind.i64 (f j).m.y, Value.int IntKind.i64 (f j).m.d, Value.int IntKind.i64 (f j).m.e]) hPm hi rfl hA hA1 (by decide) hsz hcl HV.out hf (Below.refl _ u) rfl (by first | (rw [← e3]; done) | (rw [← e3]; rfl))
                · have hA : l.getD 12 false = false := by
                    cases hx : l.getD 12 false
                    · rfl
                    · have hx0 := hcl.dep (i := 12) rfl hx 11 (by kernel_rfl)
                      have hx1 := hcl.dep (i := 11) rfl hx0 10 (by kernel_rfl)
                      have hx2 := hcl.dep (i := 10) rfl hx1 8 (by kernel_rfl)
                      have hx3 := hcl.dep (i := 8) rfl hx2 7 (by kernel_rfl)
                      have hx4 := hcl.dep (i := 7) rfl hx3 5 (by kernel_rfl)
                      exact (not_doneG hl0 hx4).elim
                  have hA1 : l.getD (12 + 1) false = false := by
                    cases hx : l.getD (12 + 1) false
                    · rfl
                    · have hx0 := hcl.dep (i := 13) rfl hx 12 (by kernel_rfl)
                      rw [hA] at hx0; cases hx0
                  have hbu := (hf hA).1
                  have e4 : vs 4 = Value.agg #[Value.int IntKind.i64 (f j).m.x, Value.int IntKind.i64 (f j).m.y, Value.int IntKind.i64 (f j).m.d, Value.int IntKind.i64 (f j).m.e] := (hf hA).2 4 (ready_depG hi rfl 4 (by kernel_rfl))
                  refine wpOp_step rfl (fun K hK => ?_)
                  go_simp
                  refine (countsI _ _ _ _ _).mono ?_
                  rintro r w5 ⟨rfl, b5⟩
                  refine hK _ _ ?_
                  exact RG.step 5 (Value.agg #[Value.int IntKind.i64 (f j).m.x, Value.int IntKind.i64 (f j).m.y, Value.int IntKind.i64 (f j).m.d, Value.int IntKind.i64 (f j).m.e]) hPm hi rfl hA hA1 (by decide) hsz hcl HV.out hf b5 rfl (by first | (rw [← e4]; done) | (rw [← e4]; rfl))
                · have hA : l.getD 12 false = false := by
                    cases hx : l.getD 12 false
                    · rfl
                    · have hx0 := hcl.dep (i := 12) rfl hx 11 (by kernel_rfl)
                      have hx1 := hcl.dep (i := 11) rfl hx0 10 (by kernel_rfl)
                      have hx2 := hcl.dep (i := 10) rfl hx1 8 (by kernel_rfl)
                      have hx3 := hcl.dep (i := 8) rfl hx2 7 (by kernel_rfl)
                      have hx4 := hcl.dep (i := 7) rfl hx3 6 (by kernel_rfl)
                      exact (not_doneG hl0 hx4).elim
                  have hA1 : l.getD (12 + 1) false = false := by
                    cases hx : l.getD (12 + 1) false
                    · rfl
                    · have hx0 := hcl.dep (i := 13) rfl hx 12 (by kernel_rfl)
                      rw [hA] at hx0; cases hx0
                  have hbu := (hf hA).1
                  refine wpOp_step rfl (fun K hK => ?_)
                  go_simp
                  refine hK _ _ ?_
                  exact RG.step 6 (Value.int IntKind.i64 0) hPm hi rfl hA hA1 (by decide) hsz hcl HV.out hf (Below.refl _ u) rfl rfl
                · have hA : l.getD 12 false = false := by
                    cases hx : l.getD 12 false
                    · rfl
                    · have hx0 := hcl.dep (i := 12) rfl hx 11 (by kernel_rfl)
                      have hx1 := hcl.dep (i := 11) rfl hx0 10 (by kernel_rfl)
                      have hx2 := hcl.dep (i := 10) rfl hx1 8 (by kernel_rfl)
                      have hx3 := hcl.dep (i := 8) rfl hx2 7 (by kernel_rfl)
                      exact (not_doneG hl0 hx3).elim
                  have hA1 : l.getD (12 + 1) false = false := by
                    cases hx : l.getD (12 + 1) false
                    · rfl
                    · have hx0 := hcl.dep (i := 13) rfl hx 12 (by kernel_rfl)
                      rw [hA] at hx0; cases hx0
                  have hbu := (hf hA).1
                  have e5 : vs 5 = Value.agg #[Value.int IntKind.i64 (f j).m.x, Value.int IntKind.i64 (f j).m.y, Value.int IntKind.i64 (f j).m.d, Value.int IntKind.i64 (f j).m.e] := (hf hA).2 5 (ready_depG hi rfl 5 (by kernel_rfl))
                  have e6 : vs 6 = Value.int IntKind.i64 0 := (hf hA).2 6 (ready_depG hi rfl 6 (by kernel_rfl))
                  refine wpOp_step rfl (fun K hK => ?_)
                  go_simp
                  refine hK _ _ ?_
                  exact RG.step 7 (Value.int IntKind.i64 (f j).m.x) hPm hi rfl hA hA1 (by decide) hsz hcl HV.out hf (Below.refl _ u) rfl (by first | (rw [← e5, ← e6]; done) | (rw [← e5, ← e6]; rfl))
                · have hA : l.getD 12 false = false := by
                    cases hx : l.getD 12 false
                    · rfl
                    · have hx0 := hcl.dep (i := 12) rfl hx 11 (by kernel_rfl)
                      have hx1 := hcl.dep (i := 11) rfl hx0 10 (by kernel_rfl)
                      have hx2 := hcl.dep (i := 10) rfl hx1 8 (by kernel_rfl)
                      exact (not_doneG hl0 hx2).elim
                  have hA1 : l.getD (12 + 1) false = false := by
                    cases hx : l.getD (12 + 1) false
                    · rfl
                    · have hx0 := hcl.dep (i := 13) rfl hx 12 (by kernel_rfl)
                      rw [hA] at hx0; cases hx0
                  have hbu := (hf hA).1
                  have e2 : vs 2 = Value.int IntKind.i64 (f j).c := (hf hA).2 2 (ready_depG hi rfl 2 (by kernel_rfl))
                  have e7 : vs 7 = Value.int IntKind.i64 (f j).m.x := (hf hA).2 7 (ready_depG hi rfl 7 (by kernel_rfl))
                  refine wpOp_step rfl (fun K hK => ?_)
                  go_simp
                  refine (mulI _ _ _).mono ?_
                  rw [fMul_in c1 c2 x1 (by omega)]
                  rintro r w6 ⟨rfl, hw6⟩
                  obtain rfl := hw6.symm
                  refine hK _ _ ?_
                  exact RG.step 8 (Value.int IntKind.i64 ((f j).c * (f j).m.x % 101)) hPm hi rfl hA hA1 (by decide) hsz hcl HV.out hf (Below.refl _ u) rfl (by first | (rw [← e2, ← e7]; done) | (rw [← e2, ← e7]; rfl))
                · have hA : l.getD 12 false = false := by
                    cases hx : l.getD 12 false
                    · rfl
                    · have hx0 := hcl.dep (i := 12) rfl hx 11 (by kernel_rfl)
                      have hx1 := hcl.dep (i := 11) rfl hx0 10 (by kernel_rfl)
                      have hx2 := hcl.dep (i := 10) rfl hx1 9 (by kernel_rfl)
                      exact (not_doneG hl0 hx2).elim
                  have hA1 : l.getD (12 + 1) false = false := by
                    cases hx : l.getD (12 + 1) false
                    · rfl
                    · have hx0 := hcl.dep (i := 13) rfl hx 12 (by kernel_rfl)
                      rw [hA] at hx0; cases hx0
                  have hbu := (hf hA).1
                  obtain ⟨p0, p1, p2, p3, p4, p5, p6, p7, p8⟩ := ssb hbu hSS
                  refine wpOp_step rfl (fun K hK => ?_)
                  go_simp
                  refine hK _ _ ?_
                  exact RG.step 9 (Value.agg #[Value.int IntKind.i64 ((f j).m.x - 1), Value.int IntKind.i64 (f j).m.y, Value.int IntKind.i64 (f j).m.d, Value.int IntKind.i64 (f j).m.e]) hPm hi rfl hA hA1 (by decide) hsz hcl HV.out hf (Below.refl _ u) rfl rfl
                · have hA : l.getD 12 false = false := by
                    cases hx : l.getD 12 false
                    · rfl
                    · have hx0 := hcl.dep (i := 12) rfl hx 11 (by kernel_rfl)
                      have hx1 := hcl.dep (i := 11) rfl hx0 10 (by kernel_rfl)
                      exact (not_doneG hl0 hx1).elim
                  have hA1 : l.getD (12 + 1) false = false := by
                    cases hx : l.getD (12 + 1) false
                    · rfl
                    · have hx0 := hcl.dep (i := 13) rfl hx 12 (by kernel_rfl)
                      rw [hA] at hx0; cases hx0
                  have hbu := (hf hA).1
                  have e8 : vs 8 = Value.int IntKind.i64 ((f j).c * (f j).m.x % 101) := (hf hA).2 8 (ready_depG hi rfl 8 (by kernel_rfl))
                  have e9 : vs 9 = Value.agg #[Value.int IntKind.i64 ((f j).m.x - 1), Value.int IntKind.i64 (f j).m.y, Value.int IntKind.i64 (f j).m.d, Value.int IntKind.i64 (f j).m.e] := (hf hA).2 9 (ready_depG hi rfl 9 (by kernel_rfl))
                  refine wpOp_step rfl (fun K hK => ?_)
                  go_simp
                  refine hK _ _ ?_
                  exact RG.step 10 (Value.agg #[Value.int IntKind.i64 ((f j).c * (f j).m.x % 101), Value.int IntKind.i64 ((f j).m.x - 1), Value.int IntKind.i64 (f j).m.y, Value.int IntKind.i64 (f j).m.d, Value.int IntKind.i64 (f j).m.e]) hPm hi rfl hA hA1 (by decide) hsz hcl HV.out hf (Below.refl _ u) rfl (by first | (rw [← e8, ← e9]; done) | (rw [← e8, ← e9]; rfl))
                · have hA : l.getD 12 false = false := by
                    cases hx : l.getD 12 false
                    · rfl
                    · have hx0 := hcl.dep (i := 12) rfl hx 11 (by kernel_rfl)
                      exact (not_doneG hl0 hx0).elim
                  have hA1 : l.getD (12 + 1) false = false := by
                    cases hx : l.getD (12 + 1) false
                    · rfl
                    · have hx0 := hcl.dep (i := 13) rfl hx 12 (by kernel_rfl)
                      rw [hA] at hx0; cases hx0
                  have hbu := (hf hA).1
                  have e10 : vs 10 = Value.agg #[Value.int IntKind.i64 ((f j).c * (f j).m.x % 101), Value.int IntKind.i64 ((f j).m.x - 1), Value.int IntKind.i64 (f j).m.y, Value.int IntKind.i64 (f j).m.d, Value.int IntKind.i64 (f j).m.e] := (hf hA).2 10 (ready_depG hi rfl 10 (by kernel_rfl))
                  refine wpOp_step rfl (fun K hK => ?_)
                  go_simp
                  refine hK _ _ ?_
                  exact RG.step 11 (.slice (some ⟨u.heap.size, 0, none⟩) 1 1) hPm hi rfl hA hA1 (by decide) hsz hcl HV.out hf (bel_one u _) ⟨u.heap.size, rfl, by simp, heap_alloc_new u _⟩ (by first | (rw [← e10]; done) | (rw [← e10]; rfl))
                · have hA : l.getD 12 false = false := by rw [Array.getD_eq_getD_getElem?, getD_false hl0]; rfl
                  have hA1 : l.getD (12 + 1) false = false := by
                    cases hx : l.getD (12 + 1) false
                    · rfl
                    · have hx0 := hcl.dep (i := 13) rfl hx 12 (by kernel_rfl)
                      rw [hA] at hx0; cases hx0
                  have hbu := (hf hA).1
                  have e0 : vs 0 = u6 := (hf hA).2 0 (ready_depG hi rfl 0 (by kernel_rfl))
                  obtain ⟨bb, e1, hbl, hbc⟩ := (hf hA).2 11 (ready_depG hi rfl 11 (by kernel_rfl))
                  have HOX := owns_below HOU.out hbu
                  refine wpOp_step rfl (fun K hK => ?_)
                  refine step_append_lies _ rfl (.tmp 44) (.tmp 55) 23 rfl (w.heap.size + 1) 36 i0 _ 5 40 Try.underlying23 hi0 hz0 hz1 hz2 rfl (by omega) _ (slT 0 f j).length (cellsL (slT 0 f j)) e0 HOX ⟨bb, 0, none⟩ 1 1 (cellsL [⟨(f j).c * (f j).m.x % 101, ⟨((f j).m.x - 1), (f j).m.y, (f j).m.d, (f j).m.e⟩⟩]) e1 (by rw [cellsL_length]; rfl) (by rw [cellsL_one]; exact World.news_of_block hbc) (one_cells _) (by omega) (by have := HLN.out; unfold maxLen; omega) (by have := HLN.out; omega) (by have := hbu.size; omega) _ rfl ?_
                  intro g0 cap0 w9 hown1 hgrow hat hlt1
                  refine hK _ _ ?_
                  have hrow : ∀ k, u6.ownBlock = some k → w.heap.size + 1 ≤ k := fun k hk => (HOX.lt k hk).1
                  refine RG.last (.slice (some ⟨g0, 0, none⟩) ((slT 0 f j).length + 1) cap0) hi rfl (by decide) hA1 hsz hcl HV.out ⟨?_, ?_, ?_⟩ rfl
                  · rw [HSL.out, cellsL_append, List.length_append]; exact hown1
                  · exact (bel_next HWU.out hbu).grown hgrow (by have := hbu.size; omega) (fun k hk => by have := hrow k hk; omega)
                  · exact (bel_next HBU.out hbu).grown hgrow (by have := hbu.size; omega) (fun k hk => by have := hrow k hk; omega)
                · have hAt : l.getD 12 false = true := ready_depG hi rfl 12 (by kernel_rfl)
                  refine wpOp_step rfl (fun K hK => ?_)
                  go_simp
                  refine hK _ _ ?_
                  exact RG.asg hi rfl hAt (by decide) hsz hcl hy rfl
              · intro l b0 u hI hr
                obtain ⟨vs, rfl, hv0, hsz, hcl, hf, hy, hy1⟩ := hI
                have hall := all_doneG (by kernel_rfl) hr hsz
                exact ⟨vs, rfl, hy1 (hall 13 (by decide))⟩
            · intro e b0 ub hh
              cases e with
              | normal =>
                obtain ⟨vs, rfl, h5, h6, h7⟩ := hh
                have H5 := Hid.mk' h5
                have H6 := Hid.mk' h6
                have H7 := Hid.mk' h7
                clear h5 h6 h7 hPm hSS HOU HBU HWU hidx
                go_wp2
                go_roundw
                case rel => exact ⟨j + 1, by omega, by go_num, H5.out, H6.out, H7.out⟩
                case measure => simp [intOf]; omega
              | _ => exact hh.elim
          | _ => exact hh.elim
      · have hov : M.over ⟨(f j).m.x, (f j).m.y, (f j).m.d, (f j).m.e⟩ ⟨1, 0, 0, 0⟩ = (⟨0, 0, 0, 0⟩, false) := by
          have hd : ¬ M.dvd ⟨1, 0, 0, 0⟩ ⟨(f j).m.x, (f j).m.y, (f j).m.d, (f j).m.e⟩ = true := fun hh => by
            have := (M.dvd_iff hh).2.2
            dsimp only at this
            omega
          rw [M.over, if_neg hd]
          rfl
        have HCT := monOverI (f j).m.x (f j).m.y (f j).m.d (f j).m.e 1 0 0 0
        rw [hov] at HCT
        have HCT2 := Hid.mk' HCT
        have HSL : Hid (slT 0 f (j + 1) = slT 0 f j) := by
          show _ = _
          simp only [slT, slO]
          rw [if_neg (show ¬ 1 ≤ cntK 0 (f j).m from hc), List.append_nil]
        clear HCT hov
        refine Code.wp_mono (Q := fun e b0 u => match e with | Exit.normal => (∃ g : Nat, b0 = { tmps := #[Value.slice (some ⟨b, off, none⟩) n cap, Value.int IntKind.i64 0, undef, undef, Value.slice none 0 0, Value.slice (some ⟨w.heap.size, 0, none⟩) 2 2, u6, undef, Value.pointer (some ⟨wr.heap.size, 0, none⟩), Value.pointer (some ⟨g, 0, none⟩), Value.bool false, Value.agg #[Value.int IntKind.i64 1, Value.int IntKind.i64 0, Value.int IntKind.i64 0, Value.int IntKind.i64 0], Value.agg #[Value.int IntKind.i64 0, Value.int IntKind.i64 1, Value.int IntKind.i64 0, Value.int IntKind.i64 0], Value.slice (some ⟨w.heap.size, 0, none⟩) 2 2, Value.int IntKind.i64 0, Value.bool false, Value.bool false, Value.int IntKind.i64 0, Value.slice (some ⟨w.heap.size, 0, none⟩) 2 2, Value.int IntKind.i64 2, Value.bool false, Value.bool false, Value.bool false, Value.slice (some ⟨b, off, none⟩) n cap, Value.bool true, Value.bool false, Value.bool false, Value.slice (some ⟨b, off, none⟩) n cap, Value.int IntKind.i64 (n : Int), Value.int IntKind.i64 (j : Int), Value.bool true, Value.pointer (some ⟨b, off + j * 5, none⟩), Value.agg #[Value.int IntKind.i64 (f j).c, Value.int IntKind.i64 (f j).m.x, Value.int IntKind.i64 (f j).m.y, Value.int IntKind.i64 (f j).m.d, Value.int IntKind.i64 (f j).m.e], Value.tuple #[Value.agg #[Value.int IntKind.i64 0, Value.int IntKind.i64 0, Value.int IntKind.i64 0, Value.int IntKind.i64 0], Value.bool false], Value.pointer (some ⟨wr.heap.size, 1, none⟩), Value.agg #[Value.int IntKind.i64 (f j).m.x, Value.int IntKind.i64 (f j).m.y, Value.int IntKind.i64 (f j).m.d, Value.int IntKind.i64 (f j).m.e], Value.slice (some ⟨w.heap.size, 0, none⟩) 2 2, Value.int IntKind.i64 0, Value.pointer (some ⟨w.heap.size, 0, none⟩), Value.agg #[Value.int IntKind.i64 1, Value.int IntKind.i64 0, Value.int IntKind.i64 0, Value.int IntKind.i64 0], Value.tuple #[Value.agg #[Value.int IntKind.i64 0, Value.int IntKind.i64 0, Value.int IntKind.i64 0, Value.int IntKind.i64 0], Value.bool false], Value.agg #[Value.int IntKind.i64 0, Value.int IntKind.i64 0, Value.int IntKind.i64 0, Value.int IntKind.i64 0], Value.bool false, u43, u44, u45, u46, u47, u48, u49, u50, u51, u52, u53, u54, u55, u56, u57, undef], defers := [] } ∧ Below wq.heap.size wq u) | _ => False) ?_ ?_
        rotate_left
        · go_region_with (go_at_call 51; refine (HCT2.out _).mono ?_; rintro e w4 ⟨rfl, b4⟩; obtain ⟨hc4, hf4⟩ := bcell b4; have hs4 := b4.size; (try simp at hs4); have hl4 : wq.heap.size ≤ w4.heap.size := (by omega); (try (have hl5 : wq.heap.size < w4.heap.size := (by omega))))
          all_goals
            refine ⟨_, rfl, ?_⟩
            first
              | exact bel_next (bel_next (Below.refl _ _).drew b4) (bel_one w4 _)
              | exact bel_set4 (bel_next (bel_next (bel_one wq _) (Below.refl _ _).drew) b4) (Nat.le_refl _) _ _ _ _
        · intro e b0 ua hh
          cases e with
          | normal =>
            obtain ⟨g, rfl, hbu⟩ := hh
            have HOU := Hid.mk' (owns_below HOQ.out hbu)
            have HBU := Hid.mk' (bel_next HBQ.out hbu)
            have HWU := Hid.mk' (bel_next HWQ.out hbu)
            clear hbu HQ q0 q1 q2 q3 q4 t0 t1 t2 t3 HOQ HBQ HWQ HCT2
            go_wp2
            go_roundw
            case rel => exact ⟨j + 1, by omega, by go_num, by rw [HSL.out]; exact HOU.out, HWU.out, HBU.out⟩
            case measure => simp [intOf]; omega
          | _ => exact hh.elim
    · obtain rfl : j = n := by omega
      have HO := Hid.mk' (owns_lower ho (Nat.le_succ _))
      clear ho
      go_wp2
      go_ret
      exact ⟨_, rfl, hB, HO.out⟩
set_option maxRecDepth 100000 in
set_option maxHeartbeats 8000000 in
theorem actSlopeI1 (w : World) (a : Option Addr) (n cap : Nat) (f : Nat → T) (h : Rd w a n cap f) (hp : polFree n f = true) :
    Calls Try.prog 21 #[.slice a n cap, .int .i64 1] w fun r w' => ∃ v, r = .returned v ∧ Below w.heap.size w w' ∧ w'.ownsRow w.heap.size 36 5 v (slT 1 f n).length (cellsL (slT 1 f n)) := by
  obtain ⟨i0, hi0, hz0, hz1, hz2⟩ := info_parts infoT
  have hok := polFree_ok hp
  have HM := Hid.mk' (polOk_m hok)
  obtain ⟨hl, hc⟩ := polOk_c hok
  have HC := Hid.mk' hc
  have HR := Hid.mk' h
  obtain ⟨h1, h2, h3⟩ := h
  have hn : (n : Int) ≤ 400 := by omega
  clear hok hc
  go_enter Try.func21, Try.ntmps21
  go_wp2_with fail
  have HR1 := Hid.mk' (HR.out.below (bel_one w (.cells #[.int .i64 1, .int .i64 0, .int .i64 0, .int .i64 0, .int .i64 0, .int .i64 1, .int .i64 0, .int .i64 0] 34)))
  have HB1 := Hid.mk' (bel_one w (.cells #[.int .i64 1, .int .i64 0, .int .i64 0, .int .i64 0, .int .i64 0, .int .i64 1, .int .i64 0, .int .i64 0] 34))
  have ht : ∀ i v, #[Value.int .i64 1, .int .i64 0, .int .i64 0, .int .i64 0, .int .i64 0, .int .i64 1, .int .i64 0, .int .i64 0][i]? = some v → (w.alloc (.cells #[.int .i64 1, .int .i64 0, .int .i64 0, .int .i64 0, .int .i64 0, .int .i64 1, .int .i64 0, .int .i64 0] 34)).cell? ⟨w.heap.size, i, none⟩ = some v := fun i v hv => by rw [World.cell?_alloc_at _ _ _ _ rfl]; exact hv
  have HT := Hid.mk' (And.intro (ht 4 _ rfl) (And.intro (ht 5 _ rfl) (And.intro (ht 6 _ rfl) (ht 7 _ rfl))))
  have hsW : w.heap.size < (w.alloc (.cells #[.int .i64 1, .int .i64 0, .int .i64 0, .int .i64 0, .int .i64 0, .int .i64 1, .int .i64 0, .int .i64 0] 34)).heap.size := by simp
  have hsW2 : (w.alloc (.cells #[.int .i64 1, .int .i64 0, .int .i64 0, .int .i64 0, .int .i64 0, .int .i64 1, .int .i64 0, .int .i64 0] 34)).heap.size ≤ w.heap.size + 1 := by simp
  clear ht
  generalize (w.alloc (.cells #[.int .i64 1, .int .i64 0, .int .i64 0, .int .i64 0, .int .i64 0, .int .i64 1, .int .i64 0, .int .i64 0] 34)) = W at HR1 HB1 HT hsW hsW2 ⊢
  refine (polFreeI _ _ _ _ f HR1.out).mono ?_
  rw [hp]
  rintro r w1 ⟨rfl, hb⟩
  have HB2 := Hid.mk' (bel_next HB1.out hb)
  have HW2 := Hid.mk' hb
  clear hb HB1 HR1
  go_wp2
  go_loopw [6, 29] (fun v i wr => ∃ j : Nat, j ≤ n ∧ i = .int .i64 j ∧ wr.ownsRow (w.heap.size + 1) 36 5 v (slT 1 f j).length (cellsL (slT 1 f j)) ∧ Below W.heap.size W wr ∧ Below w.heap.size w wr) (fun _ i _ => n - (intOf i).toNat)
  case atStart => exact ⟨0, Nat.zero_le _, rfl, ownsT_nil _ _, HW2.out, HB2.out⟩
  case round =>
    obtain ⟨j, hj, rfl, ho, hW, hB⟩ := hrel
    by_cases hlt : j < n
    · rcases h3 with h0 | ⟨b, off, rfl, hblt, hcl⟩
      · omega
      have hjn : (j : Int) < (n : Int) := by omega
      obtain ⟨g0, g1, g2, g3, g4⟩ := (hcl j hlt).below hB hblt
      obtain ⟨x1, x2, y1, y2, d1, d2, e1, e2⟩ := M.ok_iff.1 (HM.out j hlt)
      obtain ⟨c1, c2⟩ := HC.out j hlt
      have HO := Hid.mk' ho
      have HB := Hid.mk' hB
      have HW := Hid.mk' hW
      have HLN := Hid.mk' (slT_len 1 f j)
      have hsz1 : W.heap.size ≤ wr.heap.size := hW.size
      clear ho hcl hB hW
      go_wp2_with fail
      have HBQ := Hid.mk' (bel_next HB.out (bel_one wr (.cells #[.int .i64 (f j).c, .int .i64 (f j).m.x, .int .i64 (f j).m.y, .int .i64 (f j).m.d, .int .i64 (f j).m.e] 36)))
      have HWQ := Hid.mk' (bel_next HW.out (bel_one wr (.cells #[.int .i64 (f j).c, .int .i64 (f j).m.x, .int .i64 (f j).m.y, .int .i64 (f j).m.d, .int .i64 (f j).m.e] 36)))
      have HOQ := Hid.mk' (owns_below HO.out (bel_one wr (.cells #[.int .i64 (f j).c, .int .i64 (f j).m.x, .int .i64 (f j).m.y, .int .i64 (f j).m.d, .int .i64 (f j).m.e] 36)))
      have hq : ∀ i v, #[Value.int .i64 (f j).c, Value.int .i64 (f j).m.x, Value.int .i64 (f j).m.y, Value.int .i64 (f j).m.d, Value.int .i64 (f j).m.e][i]? = some v → (wr.alloc (.cells #[.int .i64 (f j).c, .int .i64 (f j).m.x, .int .i64 (f j).m.y, .int .i64 (f j).m.d, .int .i64 (f j).m.e] 36)).cell? ⟨wr.heap.size, i, none⟩ = some v := fun i v hv => by rw [World.cell?_alloc_at _ _ _ _ rfl]; exact hv
      have q0 := hq 0 _ rfl
      have q1 := hq 1 _ rfl
      have q2 := hq 2 _ rfl
      have q3 := hq 3 _ rfl
      have q4 := hq 4 _ rfl
      have hszq : (wr.alloc (.cells #[.int .i64 (f j).c, .int .i64 (f j).m.x, .int .i64 (f j).m.y, .int .i64 (f j).m.d, .int .i64 (f j).m.e] 36)).heap.size > wr.heap.size := by simp
      clear hq g0 g1 g2 g3 g4
      generalize (wr.alloc (.cells #[.int .i64 (f j).c, .int .i64 (f j).m.x, .int .i64 (f j).m.y, .int .i64 (f j).m.d, .int .i64 (f j).m.e] 36)) = wq at HBQ HWQ HOQ q0 q1 q2 q3 q4 hszq ⊢
      have t0 := (HWQ.out.cell (p := ⟨w.heap.size, 4, none⟩) hsW).trans HT.out.1
      have t1 := (HWQ.out.cell (p := ⟨w.heap.size, 5, none⟩) hsW).trans HT.out.2.1
      have t2 := (HWQ.out.cell (p := ⟨w.heap.size, 6, none⟩) hsW).trans HT.out.2.2.1
      have t3 := (HWQ.out.cell (p := ⟨w.heap.size, 7, none⟩) hsW).trans HT.out.2.2.2
      have HQ : Hid (C5a wq wr.heap.size (f j)) := ⟨q0, q1, q2, q3, q4⟩
      have hwq : w.heap.size < wq.heap.size := by omega
      by_cases hc : 1 ≤ (f j).m.y
      · have hov : M.over ⟨(f j).m.x, (f j).m.y, (f j).m.d, (f j).m.e⟩ ⟨0, 1, 0, 0⟩ = (⟨(f j).m.x, ((f j).m.y - 1), (f j).m.d, (f j).m.e⟩, true) := by
          have hd : M.dvd ⟨0, 1, 0, 0⟩ ⟨(f j).m.x, (f j).m.y, (f j).m.d, (f j).m.e⟩ = true := by
            have ho1 : M.ok ⟨0, 1, 0, 0⟩ = true := by decide
            have ho2 : M.ok ⟨(f j).m.x, (f j).m.y, (f j).m.d, (f j).m.e⟩ = true := M.ok_iff.2 (by dsimp only; omega)
            simp only [M.dvd, ho1, ho2, Bool.and_self, Bool.true_and, decide_eq_true_eq]
            omega
          rw [M.over, if_pos hd]
          simp [M.diff]
        have HCT := monOverI (f j).m.x (f j).m.y (f j).m.d (f j).m.e 0 1 0 0
        rw [hov] at HCT
        have HCT2 := Hid.mk' HCT
        clear HCT hov
        refine Code.wp_mono (Q := fun e b0 u => match e with | Exit.normal => (∃ g : Nat, b0 = { tmps := #[Value.slice (some ⟨b, off, none⟩) n cap, Value.int IntKind.i64 1, undef, undef, Value.slice none 0 0, Value.slice (some ⟨w.heap.size, 0, none⟩) 2 2, u6, undef, Value.pointer (some ⟨wr.heap.size, 0, none⟩), Value.pointer (some ⟨g, 0, none⟩), Value.bool true, Value.agg #[Value.int IntKind.i64 1, Value.int IntKind.i64 0, Value.int IntKind.i64 0, Value.int IntKind.i64 0], Value.agg #[Value.int IntKind.i64 0, Value.int IntKind.i64 1, Value.int IntKind.i64 0, Value.int IntKind.i64 0], Value.slice (some ⟨w.heap.size, 0, none⟩) 2 2, Value.int IntKind.i64 1, Value.bool false, Value.bool false, Value.int IntKind.i64 1, Value.slice (some ⟨w.heap.size, 0, none⟩) 2 2, Value.int IntKind.i64 2, Value.bool false, Value.bool false, Value.bool false, Value.slice (some ⟨b, off, none⟩) n cap, Value.bool true, Value.bool false, Value.bool false, Value.slice (some ⟨b, off, none⟩) n cap, Value.int IntKind.i64 (n : Int), Value.int IntKind.i64 (j : Int), Value.bool true, Value.pointer (some ⟨b, off + j * 5, none⟩), Value.agg #[Value.int IntKind.i64 (f j).c, Value.int IntKind.i64 (f j).m.x, Value.int IntKind.i64 (f j).m.y, Value.int IntKind.i64 (f j).m.d, Value.int IntKind.i64 (f j).m.e], Value.tuple #[Value.agg #[Value.int IntKind.i64 (f j).m.x, Value.int IntKind.i64 ((f j).m.y - 1), Value.int IntKind.i64 (f j).m.d, Value.int IntKind.i64 (f j).m.e], Value.bool true], Value.pointer (some ⟨wr.heap.size, 1, none⟩), Value.agg #[Value.int IntKind.i64 (f j).m.x, Value.int IntKind.i64 (f j).m.y, Value.int IntKind.i64 (f j).m.d, Value.int IntKind.i64 (f j).m.e], Value.slice (some ⟨w.heap.size, 0, none⟩) 2 2, Value.int IntKind.i64 1, Value.pointer (some ⟨w.heap.size, 4, none⟩), Value.agg #[Value.int IntKind.i64 0, Value.int IntKind.i64 1, Value.int IntKind.i64 0, Value.int IntKind.i64 0], Value.tuple #[Value.agg #[Value.int IntKind.i64 (f j).m.x, Value.int IntKind.i64 ((f j).m.y - 1), Value.int IntKind.i64 (f j).m.d, Value.int IntKind.i64 (f j).m.e], Value.bool true], Value.agg #[Value.int IntKind.i64 (f j).m.x, Value.int IntKind.i64 ((f j).m.y - 1), Value.int IntKind.i64 (f j).m.d, Value.int IntKind.i64 (f j).m.e], Value.bool true, u43, u44, u45, u46, u47, u48, u49, u50, u51, u52, u53, u54, u55, u56, u57, undef], defers := [] } ∧ M4 u g ((f j).m.x) ((f j).m.y - 1) ((f j).m.d) ((f j).m.e) ∧ wr.heap.size < g ∧ Below wq.heap.size wq u) | _ => False) ?_ ?_
        rotate_left
        · go_region_with (go_at_call 51; refine (HCT2.out _).mono ?_; rintro e w4 ⟨rfl, b4⟩; obtain ⟨hc4, hf4⟩ := bcell b4; have hs4 := b4.size; (try simp at hs4); have hl4 : wq.heap.size ≤ w4.heap.size := (by omega); (try (have hl5 : wq.heap.size < w4.heap.size := (by omega))))
          all_goals
            refine ⟨_, rfl, ⟨by go_simp, by go_simp, by go_simp, by go_simp⟩, by omega, ?_⟩
            first
              | exact bel_next (bel_next (Below.refl _ _).drew b4) (bel_one w4 _)
              | exact bel_set4 (bel_next (bel_next (bel_one wq _) (Below.refl _ _).drew) b4) (Nat.le_refl _) _ _ _ _
        · intro e b0 ua hh
          cases e with
          | normal =>
            obtain ⟨g, rfl, hm, hg, hbu⟩ := hh
            have hSS : SS ua wr.heap.size g (f j) ((f j).m.x) ((f j).m.y - 1) ((f j).m.d) ((f j).m.e) := ss_mk HQ.out hszq hbu hm
            have HOU := Hid.mk' (owns_below HOQ.out hbu)
            have HBU := Hid.mk' (bel_next HBQ.out hbu)
            have HWU := Hid.mk' (bel_next HWQ.out hbu)
            have hsu : wq.heap.size ≤ ua.heap.size := hbu.size
            have hidx : ∀ w0 : World, (Instr.index 71 (.agg #[.int .i64 (f j).m.x, .int .i64 (f j).m.y, .int .i64 (f j).m.d, .int .i64 (f j).m.e]) (.int .i64 1)).run Try.prog w0 = .ok (.int .i64 (f j).m.y) w0 := fun _ => by kernel_rfl
            have HSL : Hid (slT 1 f (j + 1) = slT 1 f j ++ [⟨(f j).c * (f j).m.y % 101, ⟨(f j).m.x, ((f j).m.y - 1), (f j).m.d, (f j).m.e⟩⟩]) := by
              show _ = _
              simp only [slT, slO]
              rw [if_pos (show 1 ≤ cntK 1 (f j).m from hc)]
              rfl
            clear hm hbu HQ q0 q1 q2 q3 q4 t0 t1 t2 t3 HOQ HBQ HWQ HCT2
            go_wp2_with fail
            have hPm : ∀ (k : Nat) (u u' : World) (v : Value), (fun k (u : World) (v : Value) => match k with | 0 => v = u6 | 1 => v = Value.pointer (some ⟨wr.heap.size, 0, none⟩) | 2 => v = Value.int IntKind.i64 (f j).c | 3 => v = Value.pointer (some ⟨wr.heap.size, 1, none⟩) | 4 => v = Value.agg #[Value.int IntKind.i64 (f j).m.x, Value.int IntKind.i64 (f j).m.y, Value.int IntKind.i64 (f j).m.d, Value.int IntKind.i64 (f j).m.e] | 5 => v = Value.agg #[Value.int IntKind.i64 (f j).m.x, Value.int IntKind.i64 (f j).m.y, Value.int IntKind.i64 (f j).m.d, Value.int IntKind.i64 (f j).m.e] | 6 => v = Value.int IntKind.i64 1 | 7 => v = Value.int IntKind.i64 (f j).m.y | 8 => v = Value.int IntKind.i64 ((f j).c * (f j).m.y % 101) | 9 => v = Value.agg #[Value.int IntKind.i64 (f j).m.x, Value.int IntKind.i64 ((f j).m.y - 1), Value.int IntKind.i64 (f j).m.d, Value.int IntKind.i64 (f j).m.e] | 10 => v = Value.agg #[Value.int IntKind.i64 ((f j).c * (f j).m.y % 101), Value.int IntKind.i64 (f j).m.x, Value.int IntKind.i64 ((f j).m.y - 1), Value.int IntKind.i64 (f j).m.d, Value.int IntKind.i64 (f j).m.e] | 11 => (∃ bb : Nat, v = .slice (some ⟨bb, 0, none⟩) 1 1 ∧ bb < u.heap.size ∧ u.heap[bb]? = some (.cells #[.int .i64 ((f j).c * (f j).m.y % 101), .int .i64 (f j).m.x, .int .i64 ((f j).m.y - 1), .int .i64 (f j).m.d, .int .i64 (f j).m.e] 36)) | _ => True) k u v → Below u.heap.size u u' → (fun k (u : World) (v : Value) => match k with | 0 => v = u6 | 1 => v = Value.pointer (some ⟨wr.heap.size, 0, none⟩) | 2 => v = Value.int IntKind.i64 (f j).c | 3 => v = Value.pointer (some ⟨wr.heap.size, 1, none⟩) | 4 => v = Value.agg #[Value.int IntKind.i64 (f j).m.x, Value.int IntKind.i64 (f j).m.y, Value.int IntKind.i64 (f j).m.d, Value.int IntKind.i64 (f j).m.e] | 5 => v = Value.agg #[Value.int IntKind.i64 (f j).m.x, Value.int IntKind.i64 (f j).m.y, Value.int IntKind.i64 (f j).m.d, Value.int IntKind.i64 (f j).m.e] | 6 => v = Value.int IntKind.i64 1 | 7 => v = Value.int IntKind.i64 (f j).m.y | 8 => v = Value.int IntKind.i64 ((f j).c * (f j).m.y % 101) | 9 => v = Value.agg #[Value.int IntKind.i64 (f j).m.x, Value.int IntKind.i64 ((f j).m.y - 1), Value.int IntKind.i64 (f j).m.d, Value.int IntKind.i64 (f j).m.e] | 10 => v = Value.agg #[Value.int IntKind.i64 ((f j).c * (f j).m.y % 101), Value.int IntKind.i64 (f j).m.x, Value.int IntKind.i64 ((f j).m.y - 1), Value.int IntKind.i64 (f j).m.d, Value.int IntKind.i64 (f j).m.e] | 11 => (∃ bb : Nat, v = .slice (some ⟨bb, 0, none⟩) 1 1 ∧ bb < u.heap.size ∧ u.heap[bb]? = some (.cells #[.int .i64 ((f j).c * (f j).m.y % 101), .int .i64 (f j).m.x, .int .i64 ((f j).m.y - 1), .int .i64 (f j).m.d, .int .i64 (f j).m.e] 36)) | _ => True) k u' v := by
              intro k u u' v hv hb
              split at hv <;> first | exact hv | (obtain ⟨bb, h1, h2, h3⟩ := hv; exact ⟨bb, h1, Nat.lt_of_lt_of_le h2 hb.size, (hb.block bb h2).trans h3⟩)
            refine Code.wp_mono (Q := fun e b0 u => match e with | Exit.normal => (∃ vs : Nat → Value, b0 = { tmps := #[Value.slice (some ⟨b, off, none⟩) n cap, Value.int IntKind.i64 1, undef, undef, Value.slice none 0 0, Value.slice (some ⟨w.heap.size, 0, none⟩) 2 2, vs 13, undef, Value.pointer (some ⟨wr.heap.size, 0, none⟩), Value.pointer (some ⟨g, 0, none⟩), Value.bool true, Value.agg #[Value.int IntKind.i64 1, Value.int IntKind.i64 0, Value.int IntKind.i64 0, Value.int IntKind.i64 0], Value.agg #[Value.int IntKind.i64 0, Value.int IntKind.i64 1, Value.int IntKind.i64 0, Value.int IntKind.i64 0], Value.slice (some ⟨w.heap.size, 0, none⟩) 2 2, Value.int IntKind.i64 1, Value.bool false, Value.bool false, Value.int IntKind.i64 1, Value.slice (some ⟨w.heap.size, 0, none⟩) 2 2, Value.int IntKind.i64 2, Value.bool false, Value.bool false, Value.bool false, Value.slice (some ⟨b, off, none⟩) n cap, Value.bool true, Value.bool false, Value.bool false, Value.slice (some ⟨b, off, none⟩) n cap, Value.int IntKind.i64 (n : Int), Value.int IntKind.i64 (j : Int), Value.bool true, Value.pointer (some ⟨b, off + j * 5, none⟩), Value.agg #[Value.int IntKind.i64 (f j).c, Value.int IntKind.i64 (f j).m.x, Value.int IntKind.i64 (f j).m.y, Value.int IntKind.i64 (f j).m.d, Value.int IntKind.i64 (f j).m.e], Value.tuple #[Value.agg #[Value.int IntKind.i64 (f j).m.x, Value.int IntKind.i64 ((f j).m.y - 1), Value.int IntKind.i64 (f j).m.d, Value.int IntKind.i64 (f j).m.e], Value.bool true], Value.pointer (some ⟨wr.heap.size, 1, none⟩), Value.agg #[Value.int IntKind.i64 (f j).m.x, Value.int IntKind.i64 (f j).m.y, Value.int IntKind.i64 (f j).m.d, Value.int IntKind.i64 (f j).m.e], Value.slice (some ⟨w.heap.size, 0, none⟩) 2 2, Value.int IntKind.i64 1, Value.pointer (some ⟨w.heap.size, 4, none⟩), Value.agg #[Value.int IntKind.i64 0, Value.int IntKind.i64 1, Value.int IntKind.i64 0, Value.int IntKind.i64 0], Value.tuple #[Value.agg #[Value.int IntKind.i64 (f j).m.x, Value.int IntKind.i64 ((f j).m.y - 1), Value.int IntKind.i64 (f j).m.d, Value.int IntKind.i64 (f j).m.e], Value.bool true], Value.agg #[Value.int IntKind.i64 (f j).m.x, Value.int IntKind.i64 ((f j).m.y - 1), Value.int IntKind.i64 (f j).m.d, Value.int IntKind.i64 (f j).m.e], Value.bool true, Value.bool true, vs 0, vs 1, vs 2, vs 3, vs 4, vs 5, vs 6, vs 7, vs 8, vs 9, vs 10, vs 11, vs 12, u57, undef], defers := [] } ∧ (fun u v => u.ownsRow (w.heap.size + 1) 36 5 v (slT 1 f (j + 1)).length (cellsL (slT 1 f (j + 1))) ∧ Below W.heap.size W u ∧ Below w.heap.size w u) u (vs 13)) | _ => False) ?_ ?_
            rotate_left
            · refine wp_region_rg (fun vs : Nat → Value => ({ tmps := #[Value.slice (some ⟨b, off, none⟩) n cap, Value.int IntKind.i64 1, undef, undef, Value.slice none 0 0, Value.slice (some ⟨w.heap.size, 0, none⟩) 2 2, vs 13, undef, Value.pointer (some ⟨wr.heap.size, 0, none⟩), Value.pointer (some ⟨g, 0, none⟩), Value.bool true, Value.agg #[Value.int IntKind.i64 1, Value.int IntKind.i64 0, Value.int IntKind.i64 0, Value.int IntKind.i64 0], Value.agg #[Value.int IntKind.i64 0, Value.int IntKind.i64 1, Value.int IntKind.i64 0, Value.int IntKind.i64 0], Value.slice (some ⟨w.heap.size, 0, none⟩) 2 2, Value.int IntKind.i64 1, Value.bool false, Value.bool false, Value.int IntKind.i64 1, Value.slice (some ⟨w.heap.size, 0, none⟩) 2 2, Value.int IntKind.i64 2, Value.bool false, Value.bool false, Value.bool false, Value.slice (some ⟨b, off, none⟩) n cap, Value.bool true, Value.bool false, Value.bool false, Value.slice (some ⟨b, off, none⟩) n cap, Value.int IntKind.i64 (n : Int), Value.int IntKind.i64 (j : Int), Value.bool true, Value.pointer (some ⟨b, off + j * 5, none⟩), Value.agg #[Value.int IntKind.i64 (f j).c, Value.int IntKind.i64 (f j).m.x, Value.int IntKind.i64 (f j).m.y, Value.int IntKind.i64 (f j).m.d, Value.int IntKind.i64 (f j).m.e], Value.tuple #[Value.agg #[Value.int IntKind.i64 (f j).m.x, Value.int IntKind.i64 ((f j).m.y - 1), Value.int IntKind.i64 (f j).m.d, Value.int IntKind.i64 (f j).m.e], Value.bool true], Value.pointer (some ⟨wr.heap.size, 1, none⟩), Value.agg #[Value.int IntKind.i64 (f j).m.x, Value.int IntKind.i64 (f j).m.y, Value.int IntKind.i64 (f j).m.d, Value.int IntKind.i64 (f j).m.e], Value.slice (some ⟨w.heap.size, 0, none⟩) 2 2, Value.int IntKind.i64 1, Value.pointer (some ⟨w.heap.size, 4, none⟩), Value.agg #[Value.int IntKind.i64 0, Value.int IntKind.i64 1, Value.int IntKind.i64 0, Value.int IntKind.i64 0], Value.tuple #[Value.agg #[Value.int IntKind.i64 (f j).m.x, Value.int IntKind.i64 ((f j).m.y - 1), Value.int IntKind.i64 (f j).m.d, Value.int IntKind.i64 (f j).m.e], Value.bool true], Value.agg #[Value.int IntKind.i64 (f j).m.x, Value.int IntKind.i64 ((f j).m.y - 1), Value.int IntKind.i64 (f j).m.d, Value.int IntKind.i64 (f j).m.e], Value.bool true, Value.bool true, vs 0, vs 1, vs 2, vs 3, vs 4, vs 5, vs 6, vs 7, vs 8, vs 9, vs 10, vs 11, vs 12, u57, undef], defers := [] } : Act)) (fun k (u : World) (v : Value) => match k with | 0 => v = u6 | 1 => v = Value.pointer (some ⟨wr.heap.size, 0, none⟩) | 2 => v = Value.int IntKind.i64 (f j).c | 3 => v = Value.pointer (some ⟨wr.heap.size, 1, none⟩) | 4 => v = Value.agg #[Value.int IntKind.i64 (f j).m.x, Value.int IntKind.i64 (f j).m.y, Value.int IntKind.i64 (f j).m.d, Value.int IntKind.i64 (f j).m.e] | 5 => v = Value.agg #[Value.int IntKind.i64 (f j).m.x, Value.int IntKind.i64 (f j).m.y, Value.int IntKind.i64 (f j).m.d, Value.int IntKind.i64 (f j).m.e] | 6 => v = Value.int IntKind.i64 1 | 7 => v = Value.int IntKind.i64 (f j).m.y | 8 => v = Value.int IntKind.i64 ((f j).c * (f j).m.y % 101) | 9 => v = Value.agg #[Value.int IntKind.i64 (f j).m.x, Value.int IntKind.i64 ((f j).m.y - 1), Value.int IntKind.i64 (f j).m.d, Value.int IntKind.i64 (f j).m.e] | 10 => v = Value.agg #[Value.int IntKind.i64 ((f j).c * (f j).m.y % 101), Value.int IntKind.i64 (f j).m.x, Value.int IntKind.i64 ((f j).m.y - 1), Value.int IntKind.i64 (f j).m.d, Value.int IntKind.i64 (f j).m.e] | 11 => (∃ bb : Nat, v = .slice (some ⟨bb, 0, none⟩) 1 1 ∧ bb < u.heap.size ∧ u.heap[bb]? = some (.cells #[.int .i64 ((f j).c * (f j).m.y % 101), .int .i64 (f j).m.x, .int .i64 ((f j).m.y - 1), .int .i64 (f j).m.d, .int .i64 (f j).m.e] 36)) | _ => True) 14 12 ua (fun u v => u.ownsRow (w.heap.size + 1) 36 5 v (slT 1 f (j + 1)).length (cellsL (slT 1 f (j + 1))) ∧ Below W.heap.size W u ∧ Below w.heap.size w u) u6 (by kernel_rfl) ?_ ?_ ?_
              · exact RG.start (fun k => if k = 13 then u6 else [u44, u45, u46, u47, u48, u49, u50, u51, u52, u53, u54, u55, u56].getD k undef) rfl rfl
              · intro l b0 u hI i hi
                obtain ⟨vs, rfl, hv0, hsz, hcl, hf, hy, hy1⟩ := hI
                have HV := Hid.mk' hv0
                clear hv0
                have hl0 := (mem_ready.1 hi).1
                have hi14 : i < 14 := by
                  obtain ⟨_, o, ho, _⟩ := mem_ready.1 hi
                  exact (Array.getElem?_eq_some_iff.1 ho).1
                rcases (show i = 0 ∨ i = 1 ∨ i = 2 ∨ i = 3 ∨ i = 4 ∨ i = 5 ∨ i = 6 ∨ i = 7 ∨ i = 8 ∨ i = 9 ∨ i = 10 ∨ i = 11 ∨ i = 12 ∨ i = 13 from by omega) with rfl | rfl | rfl | rfl | rfl | rfl | rfl | rfl | rfl | rfl | rfl | rfl | rfl | rfl
                · have hA : l.getD 12 false = false := by
                    cases hx : l.getD 12 false
                    · rfl
                    · have hx0 := hcl.dep (i := 12) rfl hx 0 (by kernel_rfl)
                      exact (not_doneG hl0 hx0).elim
                  have hA1 : l.getD (12 + 1) false = false := by
                    cases hx : l.getD (12 + 1) false
                    · rfl
                    · have hx0 := hcl.dep (i := 13) rfl hx 12 (by kernel_rfl)
                      rw [hA] at hx0; cases hx0
                  have hbu := (hf hA).1
                  have e13 : vs 13 = u6 := HV.out hA1
                  refine wpOp_step rfl (fun K hK => ?_)
                  go_simp
                  refine hK _ _ ?_
                  exact RG.step 0 (u6) hPm hi rfl hA hA1 (by decide) hsz hcl HV.out hf (Below.refl _ u) rfl (by first | (rw [← e13]; done) | (rw [← e13]; rfl))
                · have hA : l.getD 12 false = false := by
                    cases hx : l.getD 12 false
                    · rfl
                    · have hx0 := hcl.dep (i := 12) rfl hx 11 (by kernel_rfl)
                      have hx1 := hcl.dep (i := 11) rfl hx0 10 (by kernel_rfl)
                      have hx2 := hcl.dep (i := 10) rfl hx1 8 (by kernel_rfl)
                      have hx3 := hcl.dep (i := 8) rfl hx2 2 (by kernel_rfl)
                      have hx4 := hcl.dep (i := 2) rfl hx3 1 (by kernel_rfl)
                      exact (not_doneG hl0 hx4).elim
                  have hA1 : l.getD (12 + 1) false = false := by
                    cases hx : l.getD (12 + 1) false
                    · rfl
                    · have hx0 := hcl.dep (i := 13) rfl hx 12 (by kernel_rfl)
                      rw [hA] at hx0; cases hx0
                  have hbu := (hf hA).1
                  refine wpOp_step rfl (fun K hK => ?_)
                  go_simp
                  refine hK _ _ ?_
                  exact RG.step 1 (Value.pointer (some ⟨wr.heap.size, 0, none⟩)) hPm hi rfl hA hA1 (by decide) hsz hcl HV.out hf (Below.refl _ u) rfl rfl
                · have hA : l.getD 12 false = false := by
                    cases hx : l.getD 12 false
                    · rfl
                    · have hx0 := hcl.dep (i := 12) rfl hx 11 (by kernel_rfl)
                      have hx1 := hcl.dep (i := 11) rfl hx0 10 (by kernel_rfl)
                      have hx2 := hcl.dep (i := 10) rfl hx1 8 (by kernel_rfl)
                      have hx3 := hcl.dep (i := 8) rfl hx2 2 (by kernel_rfl)
                      exact (not_doneG hl0 hx3).elim
                  have hA1 : l.getD (12 + 1) false = false := by
                    cases hx : l.getD (12 + 1) false
                    · rfl
                    · have hx0 := hcl.dep (i := 13) rfl hx 12 (by kernel_rfl)
                      rw [hA] at hx0; cases hx0
                  have hbu := (hf hA).1
                  have e1 : vs 1 = Value.pointer (some ⟨wr.heap.size, 0, none⟩) := (hf hA).2 1 (ready_depG hi rfl 1 (by kernel_rfl))
                  obtain ⟨p0, p1, p2, p3, p4, p5, p6, p7, p8⟩ := ssb hbu hSS
                  refine wpOp_step rfl (fun K hK => ?_)
                  go_simp
                  refine hK _ _ ?_
                  exact RG.step 2 (Value.int IntKind.i64 (f j).c) hPm hi rfl hA hA1 (by decide) hsz hcl HV.out hf (Below.refl _ u) rfl (by first | (rw [← e1]; done) | (rw [← e1]; rfl))
                · have hA : l.getD 12 false = false := by
                    cases hx : l.getD 12 false
                    · rfl
                    · have hx0 := hcl.dep (i := 12) rfl hx 11 (by kernel_rfl)
                      have hx1 := hcl.dep (i := 11) rfl hx0 10 (by kernel_rfl)
                      have hx2 := hcl.dep (i := 10) rfl hx1 8 (by kernel_rfl)
                      have hx3 := hcl.dep (i := 8) rfl hx2 7 (by kernel_rfl)
                      have hx4 := hcl.dep (i := 7) rfl hx3 5 (by kernel_rfl)
                      have hx5 := hcl.dep (i := 5) rfl hx4 4 (by kernel_rfl)
                      have hx6 := hcl.dep (i := 4) rfl hx5 3 (by kernel_rfl)
                      exact (not_doneG hl0 hx6).elim
                  have hA1 : l.getD (12 + 1) false = false := by
                    cases hx : l.getD (12 + 1) false
                    · rfl
                    · have hx0 := hcl.dep (i := 13) rfl hx 12 (by kernel_rfl)
                      rw [hA] at hx0; cases hx0
                  have hbu := (hf hA).1
                  refine wpOp_step rfl (fun K hK => ?_)
                  go_simp
                  refine hK _ _ ?_
                  exact RG.step 3 (Value.pointer (some ⟨wr.heap.size, 1, none⟩)) hPm hi rfl hA hA1 (by decide) hsz hcl HV.out hf (Below.refl _ u) rfl rfl
                · have hA : l.getD 12 false = false := by
                    cases hx : l.getD 12 false
                    · rfl
                    · have hx0 := hcl.dep (i := 12) rfl hx 11 (by kernel_rfl)
                      have hx1 := hcl.dep (i := 11) rfl hx0 10 (by kernel_rfl)
                      have hx2 := hcl.dep (i := 10) rfl hx1 8 (by kernel_rfl)
                      have hx3 := hcl.dep (i := 8) rfl hx2 7 (by kernel_rfl)
                      have hx4 := hcl.dep (i := 7) rfl hx3 5 (by kernel_rfl)
                      have hx5 := hcl.dep (i := 5) rfl hx4 4 (by kernel_rfl)
                      exact (not_doneG hl0 hx5).elim
                  have hA1 : l.getD (12 + 1) false = false := by
                    cases hx : l.getD (12 + 1) false
                    · rfl
                    · have hx0 := hcl.dep (i := 13) rfl hx 12 (by kernel_rfl)
                      rw [hA] at hx0; cases hx0
                  have hbu := (hf hA).1
                  have e3 : vs 3 = Value.pointer (some ⟨wr.heap.size, 1, none⟩) := (hf hA).2 3 (ready_depG hi rfl 3 (by kernel_rfl))
                  obtain ⟨p0, p1, p2, p3, p4, p5, p6, p7, p8⟩ := ssb hbu hSS
                  refine wpOp_step rfl (fun K hK => ?_)
                  go_simp
                  refine hK _ _ ?_
                  exact RG.step 4 (Value.agg #[Value.int IntKind.i64 (f j).m.x, Value.int IntKind.i64 (f j).m.y, Value.int IntKind.i64 (f j).m.d, Value.int IntKind.i64 (f j).m.e]) hPm hi rfl hA hA1 (by decide) hsz hcl HV.out hf (Below.refl _ u) rfl (by first | (rw [← e3]; done) | (rw [← e3]; rfl))
                · have hA : l.getD 12 false = false := by
                    cases hx : l.getD 12 false
                    · rfl
                    · have hx0 := hcl.dep (i := 12) rfl hx 11 (by kernel_rfl)
                      have hx1 := hcl.dep (i := 11) rfl hx0 10 (by kernel_rfl)
                      have hx2 := hcl.dep (i := 10) rfl hx1 8 (by kernel_rfl)
                      have hx3 := hcl.dep (i := 8) rfl hx2 7 (by kernel_rfl)
                      have hx4 := hcl.dep (i := 7) rfl hx3 5 (by kernel_rfl)
                      exact (not_doneG hl0 hx4).elim
                  have hA1 : l.getD (12 + 1) false = false := by
                    cases hx : l.getD (12 + 1) false
                    · rfl
                    · have hx0 := hcl.dep (i := 13) rfl hx 12 (by kernel_rfl)
                      rw [hA] at hx0; cases hx0
                  have hbu := (hf hA).1
                  have e4 : vs 4 = Value.agg #[Value.int IntKind.i64 (f j).m.x, Value.int IntKind.i64 (f j).m.y, Value.int IntKind.i64 (f j).m.d, Value.int IntKind.i64 (f j).m.e] := (hf hA).2 4 (ready_depG hi rfl 4 (by kernel_rfl))
                  refine wpOp_step rfl (fun K hK => ?_)
                  go_simp
                  refine (countsI _ _ _ _ _).mono ?_
                  rintro r w5 ⟨rfl, b5⟩
                  refine hK _ _ ?_
                  exact RG.step 5 (Value.agg #[Value.int IntKind.i64 (f j).m.x, Value.int IntKind.i64 (f j).m.y, Value.int IntKind.i64 (f j).m.d, Value.int IntKind.i64 (f j).m.e]) hPm hi rfl hA hA1 (by decide) hsz hcl HV.out hf b5 rfl (by first | (rw [← e4]; done) | (rw [← e4]; rfl))
                · have hA : l.getD 12 false = false := by
                    cases hx : l.getD 12 false
                    · rfl
                    · have hx0 := hcl.dep (i := 12) rfl hx 11 (by kernel_rfl)
                      have hx1 := hcl.dep (i := 11) rfl hx0 10 (by kernel_rfl)
                      have hx2 := hcl.dep (i := 10) rfl hx1 8 (by kernel_rfl)
                      have hx3 := hcl.dep (i := 8) rfl hx2 7 (by kernel_rfl)
                      have hx4 := hcl.dep (i := 7) rfl hx3 6 (by kernel_rfl)
                      exact (not_doneG hl0 hx4).elim
                  have hA1 : l.getD (12 + 1) false = false := by
                    cases hx : l.getD (12 + 1) false
                    · rfl
                    · have hx0 := hcl.dep (i := 13) rfl hx 12 (by kernel_rfl)
                      rw [hA] at hx0; cases hx0
                  have hbu := (hf hA).1
                  refine wpOp_step rfl (fun K hK => ?_)
                  go_simp
                  refine hK _ _ ?_
                  exact RG.step 6 (Value.int IntKind.i64 1) hPm hi rfl hA hA1 (by decide) hsz hcl HV.out hf (Below.refl _ u) rfl rfl
                · have hA : l.getD 12 false = false := by
                    cases hx : l.getD 12 false
                    · rfl
                    · have hx0 := hcl.dep (i := 12) rfl hx 11 (by kernel_rfl)
                      have hx1 := hcl.dep (i := 11) rfl hx0 10 (by kernel_rfl)
                      have hx2 := hcl.dep (i := 10) rfl hx1 8 (by kernel_rfl)
                      have hx3 := hcl.dep (i := 8) rfl hx2 7 (by kernel_rfl)
                      exact (not_doneG hl0 hx3).elim
                  have hA1 : l.getD (12 + 1) false = false := by
                    cases hx : l.getD (12 + 1) false
                    · rfl
                    · have hx0 := hcl.dep (i := 13) rfl hx 12 (by kernel_rfl)
                      rw [hA] at hx0; cases hx0
                  have hbu := (hf hA).1
                  have e5 : vs 5 = Value.agg #[Value.int IntKind.i64 (f j).m.x, Value.int IntKind.i64 (f j).m.y, Value.int IntKind.i64 (f j).m.d, Value.int IntKind.i64 (f j).m.e] := (hf hA).2 5 (ready_depG hi rfl 5 (by kernel_rfl))
                  have e6 : vs 6 = Value.int IntKind.i64 1 := (hf hA).2 6 (ready_depG hi rfl 6 (by kernel_rfl))
                  refine wpOp_step rfl (fun K hK => ?_)
                  go_simp
                  refine hK _ _ ?_
                  exact RG.step 7 (Value.int IntKind.i64 (f j).m.y) hPm hi rfl hA hA1 (by decide) hsz hcl HV.out hf (Below.refl _ u) rfl (by first | (rw [← e5, ← e6]; done) | (rw [← e5, ← e6]; rfl))
                · have hA : l.getD 12 false = false := by
                    cases hx : l.getD 12 false
                    · rfl
                    · have hx0 := hcl.dep (i := 12) rfl hx 11 (by kernel_rfl)
                      have hx1 := hcl.dep (i := 11) rfl hx0 10 (by kernel_rfl)
                      have hx2 := hcl.dep (i := 10) rfl hx1 8 (by kernel_rfl)
                      exact (not_doneG hl0 hx2).elim
                  have hA1 : l.getD (12 + 1) false = false := by
                    cases hx : l.getD (12 + 1) false
                    · rfl
                    · have hx0 := hcl.dep (i := 13) rfl hx 12 (by kernel_rfl)
                      rw [hA] at hx0; cases hx0
                  have hbu := (hf hA).1
                  have e2 : vs 2 = Value.int IntKind.i64 (f j).c := (hf hA).2 2 (ready_depG hi rfl 2 (by kernel_rfl))
                  have e7 : vs 7 = Value.int IntKind.i64 (f j).m.y := (hf hA).2 7 (ready_depG hi rfl 7 (by kernel_rfl))
                  refine wpOp_step rfl (fun K hK => ?_)
                  go_simp
                  refine (mulI _ _ _).mono ?_
                  rw [fMul_in c1 c2 y1 (by omega)]
                  rintro r w6 ⟨rfl, hw6⟩
                  obtain rfl := hw6.symm
                  refine hK _ _ ?_
                  exact RG.step 8 (Value.int IntKind.i64 ((f j).c * (f j).m.y % 101)) hPm hi rfl hA hA1 (by decide) hsz hcl HV.out hf (Below.refl _ u) rfl (by first | (rw [← e2, ← e7]; done) | (rw [← e2, ← e7]; rfl))
                · have hA : l.getD 12 false = false := by
                    cases hx : l.getD 12 false
                    · rfl
                    · have hx0 := hcl.dep (i := 12) rfl hx 11 (by kernel_rfl)
                      have hx1 := hcl.dep (i := 11) rfl hx0 10 (by kernel_rfl)
                      have hx2 := hcl.dep (i := 10) rfl hx1 9 (by kernel_rfl)
                      exact (not_doneG hl0 hx2).elim
                  have hA1 : l.getD (12 + 1) false = false := by
                    cases hx : l.getD (12 + 1) false
                    · rfl
                    · have hx0 := hcl.dep (i := 13) rfl hx 12 (by kernel_rfl)
                      rw [hA] at hx0; cases hx0
                  have hbu := (hf hA).1
                  obtain ⟨p0, p1, p2, p3, p4, p5, p6, p7, p8⟩ := ssb hbu hSS
                  refine wpOp_step rfl (fun K hK => ?_)
                  go_simp
                  refine hK _ _ ?_
                  exact RG.step 9 (Value.agg #[Value.int IntKind.i64 (f j).m.x, Value.int IntKind.i64 ((f j).m.y - 1), Value.int IntKind.i64 (f j).m.d, Value.int IntKind.i64 (f j).m.e]) hPm hi rfl hA hA1 (by decide) hsz hcl HV.out hf (Below.refl _ u) rfl rfl
                · have hA : l.getD 12 false = false := by
                    cases hx : l.getD 12 false
                    · rfl
                    · have hx0 := hcl.dep (i := 12) rfl hx 11 (by kernel_rfl)
                      have hx1 := hcl.dep (i := 11) rfl hx0 10 (by kernel_rfl)
                      exact (not_doneG hl0 hx1).elim
                  have hA1 : l.getD (12 + 1) false = false := by
                    cases hx : l.getD (12 + 1) false
                    · rfl
                    · have hx0 := hcl.dep (i := 13) rfl hx 12 (by kernel_rfl)
                      rw [hA] at hx0; cases hx0
                  have hbu := (hf hA).1
                  have e8 : vs 8 = Value.int IntKind.i64 ((f j).c * (f j).m.y % 101) := (hf hA).2 8 (ready_depG hi rfl 8 (by kernel_rfl))
                  have e9 : vs 9 = Value.agg #[Value.int IntKind.i64 (f j).m.x, Value.int IntKind.i64 ((f j).m.y - 1), Value.int IntKind.i64 (f j).m.d, Value.int IntKind.i64 (f j).m.e] := (hf hA).2 9 (ready_depG hi rfl 9 (by kernel_rfl))
                  refine wpOp_step rfl (fun K hK => ?_)
                  go_simp
                  refine hK _ _ ?_
                  exact RG.step 10 (Value.agg #[Value.int IntKind.i64 ((f j).c * (f j).m.y % 101), Value.int IntKind.i64 (f j).m.x, Value.int IntKind.i64 ((f j).m.y - 1), Value.int IntKind.i64 (f j).m.d, Value.int IntKind.i64 (f j).m.e]) hPm hi rfl hA hA1 (by decide) hsz hcl HV.out hf (Below.refl _ u) rfl (by first | (rw [← e8, ← e9]; done) | (rw [← e8, ← e9]; rfl))
                · have hA : l.getD 12 false = false := by
                    cases hx : l.getD 12 false
                    · rfl
                    · have hx0 := hcl.dep (i := 12) rfl hx 11 (by kernel_rfl)
                      exact (not_doneG hl0 hx0).elim
                  have hA1 : l.getD (12 + 1) false = false := by
                    cases hx : l.getD (12 + 1) false
                    · rfl
                    · have hx0 := hcl.dep (i := 13) rfl hx 12 (by kernel_rfl)
                      rw [hA] at hx0; cases hx0
                  have hbu := (hf hA).1
                  have e10 : vs 10 = Value.agg #[Value.int IntKind.i64 ((f j).c * (f j).m.y % 101), Value.int IntKind.i64 (f j).m.x, Value.int IntKind.i64 ((f j).m.y - 1), Value.int IntKind.i64 (f j).m.d, Value.int IntKind.i64 (f j).m.e] := (hf hA).2 10 (ready_depG hi rfl 10 (by kernel_rfl))
                  refine wpOp_step rfl (fun K hK => ?_)
                  go_simp
                  refine hK _ _ ?_
                  exact RG.step 11 (.slice (some ⟨u.heap.size, 0, none⟩) 1 1) hPm hi rfl hA hA1 (by decide) hsz hcl HV.out hf (bel_one u _) ⟨u.heap.size, rfl, by simp, heap_alloc_new u _⟩ (by first | (rw [← e10]; done) | (rw [← e10]; rfl))
                · have hA : l.getD 12 false = false := by rw [Array.getD_eq_getD_getElem?, getD_false hl0]; rfl
                  have hA1 : l.getD (12 + 1) false = false := by
                    cases hx : l.getD (12 + 1) false
                    · rfl
                    · have hx0 := hcl.dep (i := 13) rfl hx 12 (by kernel_rfl)
                      rw [hA] at hx0; cases hx0
                  have hbu := (hf hA).1
                  have e0 : vs 0 = u6 := (hf hA).2 0 (ready_depG hi rfl 0 (by kernel_rfl))
                  obtain ⟨bb, e1, hbl, hbc⟩ := (hf hA).2 11 (ready_depG hi rfl 11 (by kernel_rfl))
                  have HOX := owns_below HOU.out hbu
                  refine wpOp_step rfl (fun K hK => ?_)
                  refine step_append_lies _ rfl (.tmp 44) (.tmp 55) 23 rfl (w.heap.size + 1) 36 i0 _ 5 40 Try.underlying23 hi0 hz0 hz1 hz2 rfl (by omega) _ (slT 1 f j).length (cellsL (slT 1 f j)) e0 HOX ⟨bb, 0, none⟩ 1 1 (cellsL [⟨(f j).c * (f j).m.y % 101, ⟨(f j).m.x, ((f j).m.y - 1), (f j).m.d, (f j).m.e⟩⟩]) e1 (by rw [cellsL_length]; rfl) (by rw [cellsL_one]; exact World.news_of_block hbc) (one_cells _) (by omega) (by have := HLN.out; unfold maxLen; omega) (by have := HLN.out; omega) (by have := hbu.size; omega) _ rfl ?_
                  intro g0 cap0 w9 hown1 hgrow hat hlt1
                  refine hK _ _ ?_
                  have hrow : ∀ k, u6.ownBlock = some k → w.heap.size + 1 ≤ k := fun k hk => (HOX.lt k hk).1
                  refine RG.last (.slice (some ⟨g0, 0, none⟩) ((slT 1 f j).length + 1) cap0) hi rfl (by decide) hA1 hsz hcl HV.out ⟨?_, ?_, ?_⟩ rfl
                  · rw [HSL.out, cellsL_append, List.length_append]; exact hown1
                  · exact (bel_next HWU.out hbu).grown hgrow (by have := hbu.size; omega) (fun k hk => by have := hrow k hk; omega)
                  · exact (bel_next HBU.out hbu).grown hgrow (by have := hbu.size; omega) (fun k hk => by have := hrow k hk; omega)
                · have hAt : l.getD 12 false = true := ready_depG hi rfl 12 (by kernel_rfl)
                  refine wpOp_step rfl (fun K hK => ?_)
                  go_simp
                  refine hK _ _ ?_
                  exact RG.asg hi rfl hAt (by decide) hsz hcl hy rfl
              · intro l b0 u hI hr
                obtain ⟨vs, rfl, hv0, hsz, hcl, hf, hy, hy1⟩ := hI
                have hall := all_doneG (by kernel_rfl) hr hsz
                exact ⟨vs, rfl, hy1 (hall 13 (by decide))⟩
            · intro e b0 ub hh
              cases e with
              | normal =>
                obtain ⟨vs, rfl, h5, h6, h7⟩ := hh
                have H5 := Hid.mk' h5
                have H6 := Hid.mk' h6
                have H7 := Hid.mk' h7
                clear h5 h6 h7 hPm hSS HOU HBU HWU hidx
                go_wp2
                go_roundw
                case rel => exact ⟨j + 1, by omega, by go_num, H5.out, H6.out, H7.out⟩
                case measure => simp [intOf]; omega
              | _ => exact hh.elim
          | _ => exact hh.elim
      · have hov : M.over ⟨(f j).m.x, (f j).m.y, (f j).m.d, (f j).m.e⟩ ⟨0, 1, 0, 0⟩ = (⟨0, 0, 0, 0⟩, false) := by
          have hd : ¬ M.dvd ⟨0, 1, 0, 0⟩ ⟨(f j).m.x, (f j).m.y, (f j).m.d, (f j).m.e⟩ = true := fun hh => by
            have := (M.dvd_iff hh).2.2
            dsimp only at this
            omega
          rw [M.over, if_neg hd]
          rfl
        have HCT := monOverI (f j).m.x (f j).m.y (f j).m.d (f j).m.e 0 1 0 0
        rw [hov] at HCT
        have HCT2 := Hid.mk' HCT
        have HSL : Hid (slT 1 f (j + 1) = slT 1 f j) := by
          show _ = _
          simp only [slT, slO]
          rw [if_neg (show ¬ 1 ≤ cntK 1 (f j).m from hc), List.append_nil]
        clear HCT hov
        refine Code.wp_mono (Q := fun e b0 u => match e with | Exit.normal => (∃ g : Nat, b0 = { tmps := #[Value.slice (some ⟨b, off, none⟩) n cap, Value.int IntKind.i64 1, undef, undef, Value.slice none 0 0, Value.slice (some ⟨w.heap.size, 0, none⟩) 2 2, u6, undef, Value.pointer (some ⟨wr.heap.size, 0, none⟩), Value.pointer (some ⟨g, 0, none⟩), Value.bool false, Value.agg #[Value.int IntKind.i64 1, Value.int IntKind.i64 0, Value.int IntKind.i64 0, Value.int IntKind.i64 0], Value.agg #[Value.int IntKind.i64 0, Value.int IntKind.i64 1, Value.int IntKind.i64 0, Value.int IntKind.i64 0], Value.slice (some ⟨w.heap.size, 0, none⟩) 2 2, Value.int IntKind.i64 1, Value.bool false, Value.bool false, Value.int IntKind.i64 1, Value.slice (some ⟨w.heap.size, 0, none⟩) 2 2, Value.int IntKind.i64 2, Value.bool false, Value.bool false, Value.bool false, Value.slice (some ⟨b, off, none⟩) n cap, Value.bool true, Value.bool false, Value.bool false, Value.slice (some ⟨b, off, none⟩) n cap, Value.int IntKind.i64 (n : Int), Value.int IntKind.i64 (j : Int), Value.bool true, Value.pointer (some ⟨b, off + j * 5, none⟩), Value.agg #[Value.int IntKind.i64 (f j).c, Value.int IntKind.i64 (f j).m.x, Value.int IntKind.i64 (f j).m.y, Value.int IntKind.i64 (f j).m.d, Value.int IntKind.i64 (f j).m.e], Value.tuple #[Value.agg #[Value.int IntKind.i64 0, Value.int IntKind.i64 0, Value.int IntKind.i64 0, Value.int IntKind.i64 0], Value.bool false], Value.pointer (some ⟨wr.heap.size, 1, none⟩), Value.agg #[Value.int IntKind.i64 (f j).m.x, Value.int IntKind.i64 (f j).m.y, Value.int IntKind.i64 (f j).m.d, Value.int IntKind.i64 (f j).m.e], Value.slice (some ⟨w.heap.size, 0, none⟩) 2 2, Value.int IntKind.i64 1, Value.pointer (some ⟨w.heap.size, 4, none⟩), Value.agg #[Value.int IntKind.i64 0, Value.int IntKind.i64 1, Value.int IntKind.i64 0, Value.int IntKind.i64 0], Value.tuple #[Value.agg #[Value.int IntKind.i64 0, Value.int IntKind.i64 0, Value.int IntKind.i64 0, Value.int IntKind.i64 0], Value.bool false], Value.agg #[Value.int IntKind.i64 0, Value.int IntKind.i64 0, Value.int IntKind.i64 0, Value.int IntKind.i64 0], Value.bool false, u43, u44, u45, u46, u47, u48, u49, u50, u51, u52, u53, u54, u55, u56, u57, undef], defers := [] } ∧ Below wq.heap.size wq u) | _ => False) ?_ ?_
        rotate_left
        · go_region_with (go_at_call 51; refine (HCT2.out _).mono ?_; rintro e w4 ⟨rfl, b4⟩; obtain ⟨hc4, hf4⟩ := bcell b4; have hs4 := b4.size; (try simp at hs4); have hl4 : wq.heap.size ≤ w4.heap.size := (by omega); (try (have hl5 : wq.heap.size < w4.heap.size := (by omega))))
          all_goals
            refine ⟨_, rfl, ?_⟩
            first
              | exact bel_next (bel_next (Below.refl _ _).drew b4) (bel_one w4 _)
              | exact bel_set4 (bel_next (bel_next (bel_one wq _) (Below.refl _ _).drew) b4) (Nat.le_refl _) _ _ _ _
        · intro e b0 ua hh
          cases e with
          | normal =>
            obtain ⟨g, rfl, hbu⟩ := hh
            have HOU := Hid.mk' (owns_below HOQ.out hbu)
            have HBU := Hid.mk' (bel_next HBQ.out hbu)
            have HWU := Hid.mk' (bel_next HWQ.out hbu)
            clear hbu HQ q0 q1 q2 q3 q4 t0 t1 t2 t3 HOQ HBQ HWQ HCT2
            go_wp2
            go_roundw
            case rel => exact ⟨j + 1, by omega, by go_num, by rw [HSL.out]; exact HOU.out, HWU.out, HBU.out⟩
            case measure => simp [intOf]; omega
          | _ => exact hh.elim
    · obtain rfl : j = n := by omega
      have HO := Hid.mk' (owns_lower ho (Nat.le_succ _))
      clear ho
      go_wp2
      go_ret
      exact ⟨_, rfl, hB, HO.out⟩
set_option maxHeartbeats 1000000 in
theorem actSlopeI (w : World) (a : Option Addr) (n cap : Nat) (f : Nat → T) (k : Int) (h : Rd w a n cap f) :
    Calls Try.prog 21 #[.slice a n cap, .int .i64 k] w fun r w' => ∃ v, r = .returned v ∧ Below w.heap.size w w' ∧ w'.ownsRow w.heap.size 36 5 v (actSlope k n f).length (cellsL (actSlope k n f)) := by
  by_cases hk0 : k < 0
  · have e1 : actSlope k n f = [] := by simp only [actSlope]; rw [if_neg (fun hh => by omega)]
    rw [e1]
    clear h e1
    go_enter Try.func21, Try.ntmps21
    go_wp2
    go_ret
    exact ⟨_, rfl, bel_one w _, ownsT_nil _ _⟩
  by_cases hk2 : 2 ≤ k
  · have e1 : actSlope k n f = [] := by simp only [actSlope]; rw [if_neg (fun hh => by omega)]
    rw [e1]
    clear h e1
    go_enter Try.func21, Try.ntmps21
    go_wp2
    go_ret
    exact ⟨_, rfl, bel_one w _, ownsT_nil _ _⟩
  have h01 : k = 0 ∨ k = 1 := by omega
  cases hp : polFree n f
  · have e1 : actSlope k n f = [] := by simp [actSlope, hp]
    rw [e1]
    have HR1 := Hid.mk' (h.below (bel_one w (.cells #[.int .i64 1, .int .i64 0, .int .i64 0, .int .i64 0, .int .i64 0, .int .i64 1, .int .i64 0, .int .i64 0] 34)))
    have HB1 := Hid.mk' (bel_one w (.cells #[.int .i64 1, .int .i64 0, .int .i64 0, .int .i64 0, .int .i64 0, .int .i64 1, .int .i64 0, .int .i64 0] 34))
    have hka : ¬ k < 0 := hk0
    have hkb : k < 2 := by omega
    clear h e1 h01 hk2
    go_enter Try.func21, Try.ntmps21
    go_wp2_with fail
    generalize (w.alloc (.cells #[.int .i64 1, .int .i64 0, .int .i64 0, .int .i64 0, .int .i64 0, .int .i64 1, .int .i64 0, .int .i64 0] 34)) = W at HR1 HB1 ⊢
    refine (polFreeI _ _ _ _ f HR1.out).mono ?_
    rw [hp]
    rintro r w1 ⟨rfl, hb⟩
    have HB2 := Hid.mk' (bel_next HB1.out hb)
    clear hb HB1 HR1
    go_wp2
    go_ret
    exact ⟨_, rfl, HB2.out, ownsT_nil _ _⟩
  · rcases h01 with rfl | rfl
    · have e1 : actSlope 0 n f = slT 0 f n := by simp [actSlope, hp]
      rw [e1]
      exact actSlopeI0 w a n cap f h hp
    · have e1 : actSlope 1 n f = slT 1 f n := by simp [actSlope, hp]
      rw [e1]
      exact actSlopeI1 w a n cap f h hp
end Go.Proofs.Ytnfimnfaejjagaa
