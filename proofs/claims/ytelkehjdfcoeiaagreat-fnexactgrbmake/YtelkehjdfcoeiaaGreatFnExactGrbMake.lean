/-
  FnExactGrbMake: at every argument the program answers as its model; it writes into no argument, and its answer owns its memory.
-/
import Derived.OpenShut
import Derived.Test.YtelkehjdfcoeiaaGreatNbt
namespace Go.Proofs.YtelkehjdfcoeiaaGreat.fnExactGrbMake
open Go.ChangeShapes Go.WideShapes Go.ChangeAt Go.RowKit Go.Deep Go.Joins
set_option linter.unusedVariables false
/-- blocks from lo on that were there are as they were. -/
structure Above (lo : Nat) (w w' : World) : Prop where
  size : w.heap.size ≤ w'.heap.size
  block : ∀ k, lo ≤ k → k < w.heap.size → w'.heap[k]? = w.heap[k]?
theorem Above.refl (lo : Nat) (w : World) : Above lo w w := ⟨Nat.le_refl _, fun _ _ _ => rfl⟩
theorem Above.next {lo : Nat} {w w' w'' : World} (h : Above lo w w') (hb : Below w'.heap.size w' w'') : Above lo w w'' := ⟨Nat.le_trans h.size hb.size, fun k hk hl => (hb.block k (Nat.lt_of_lt_of_le hl h.size)).trans (h.block k hk hl)⟩
theorem Above.grown {lo : Nat} {w w' w'' : World} {b : Nat} (h : Above lo w w') (hg : w'.grownBy w'' (some b)) (hb : b < lo) : Above lo w w'' :=
  ⟨Nat.le_trans h.size hg.size, fun k hk hl => (hg.block k (Nat.lt_of_lt_of_le hl h.size) (fun e => by have : k = b := (by simpa using e); omega)).trans (h.block k hk hl)⟩
theorem Above.apart {lo : Nat} {w w' w'' : World} {l hi : Nat} (h : Above lo w w') (hA : nI l hi w' w'') (hh : hi ≤ lo) : Above lo w w'' :=
  ⟨by rw [hA.size]; exact h.size, fun k hk hl => (hA.block k (Nat.lt_of_lt_of_le hl h.size) (.inr (Nat.le_trans hh hk))).trans (h.block k hk hl)⟩
theorem Above.rd {lo : Nat} {w w' : World} (ha : Above lo w w') {a : Option Addr} {n cap : Nat} {f : Nat → T} (h : Rd w a n cap f) (hb : n = 0 ∨ ∀ b off, a = some ⟨b, off, none⟩ → lo ≤ b) : Rd w' a n cap f := by
  obtain ⟨h1, h2, h3⟩ := h
  refine ⟨h1, h2, ?_⟩
  rcases h3 with h0 | ⟨b, off, rfl, hlt, hc⟩
  · exact .inl h0
  · rcases hb with h0 | hb
    · exact .inl h0
    · exact .inr ⟨b, off, rfl, Nat.lt_of_lt_of_le hlt ha.size, fun i hi => (hc i hi).same (ha.block b (hb b off rfl) hlt)⟩
theorem Above.wr {lo : Nat} {w w' : World} (ha : Above lo w w') {a : Option Addr} {n : Nat} {f : Nat → T} (h : Wr w a n f) (hb : n = 0 ∨ ∀ b off, a = some ⟨b, off, none⟩ → lo ≤ b) : Wr w' a n f := by
  rcases h with h0 | ⟨g, off, N, F, rfl, hR, hN, hF⟩
  · exact .inl h0
  · rcases hb with h0 | hb
    · exact .inl h0
    · exact .inr ⟨g, off, N, F, rfl, hR.of_block (ha.block g (hb g off rfl) hR.lt), hN, hF⟩
theorem Above.outs {lo : Nat} {w w' : World} (ha : Above lo w w') {a : Option Addr} {n cap : Nat} {ad : Nat → Option Addr} {ln cp : Nat → Nat} {f : Nat → Nat → T} {R : Nat} {B : Nat → Nat} (h : dV lo w a n cap ad ln cp f R B) : dV lo w' a n cap ad ln cp f R B := by
  have hne : ∀ i, i < n → ln i = 0 ∨ ∀ b off, ad i = some ⟨b, off, none⟩ → lo ≤ b := fun i hi => (h.el i hi).imp id (fun ⟨off, e, h1, _⟩ b' off' e' => by
    rw [e] at e'; cases e'; exact h1)
  refine ⟨⟨h.rd.1, h.rd.2.1, ?_, fun i hi => ha.rd (h.rd.2.2.2 i hi) (hne i hi)⟩, h.row, fun i hi => ha.wr (h.wr i hi) (hne i hi), h.el, h.ap⟩
  rcases h.rd.2.2.1 with h0 | ⟨b', off, e, hlt, hc⟩
  · exact .inl h0
  · rcases h.row with h0 | ⟨off', e', hlo⟩
    · exact .inl h0
    · rw [e'] at e
      obtain ⟨rfl, rfl⟩ : R = b' ∧ off' = off := by simpa using e
      exact .inr ⟨R, off', e', Nat.lt_of_lt_of_le hlt ha.size, fun i hi => (World.cell?_of_block (a := ⟨R, off' + i, none⟩) (ha.block R hlo hlt)).trans (hc i hi)⟩
theorem Above.out {lo mid : Nat} {w w' : World} (ha : Above lo w w') {a : Option Addr} {c : Nat} {L : List T} (h : gX mid w a c L) (hm : lo ≤ mid) : gX mid w' a c L := by
  have hne : L.length = 0 ∨ ∀ b off, a = some ⟨b, off, none⟩ → lo ≤ b := h.2.2.imp id (fun ⟨g, off, e, h1⟩ b' off' e' => by
    rw [e] at e'; cases e'; omega)
  exact ⟨ha.rd h.1 hne, ha.wr h.2.1 hne, h.2.2⟩
theorem apart_below {lo hi : Nat} {v w w' : World} {B : Nat} (h : Below B v w) (hA : nI lo hi w w') (hn : B ≤ lo) (hB : B ≤ v.heap.size) : Below B v w' :=
  ⟨hA.os.trans h.os, hA.tape.trans h.tape, hA.output.trans h.output, by rw [hA.size]; exact h.size, fun k hk => (hA.block k (Nat.lt_of_lt_of_le (Nat.lt_of_lt_of_le hk hB) h.size) (.inl (Nat.lt_of_lt_of_le hk hn))).trans (h.block k hk)⟩
/-- a copy of lists. -/
def Cp (w : World) (g n hi : Nat) (B ln : Nat → Nat) (f : Nat → Nat → T) : Prop := w.rowIs g 41 n (jF B ln n) ∧ ∀ i, i < n → g < B i ∧ B i < hi ∧ Own w (B i) (ln i) (f i)
theorem Cp.below {w w' : World} {g n hi : Nat} {B ln : Nat → Nat} {f : Nat → Nat → T} (h : Cp w g n hi B ln f) (hb : Below w.heap.size w w') : Cp w' g n hi B ln f :=
  ⟨h.1.of_block (hb.block g h.1.lt), fun i hi => ⟨(h.2 i hi).1, (h.2 i hi).2.1, (h.2 i hi).2.2.below hb (h.2 i hi).2.2.lt⟩⟩
theorem Cp.grown {w w' : World} {g n hi : Nat} {B ln : Nat → Nat} {f : Nat → Nat → T} {b : Nat} (h : Cp w g n hi B ln f) (hg : w.grownBy w' (some b)) (hb : b < g) : Cp w' g n hi B ln f :=
  ⟨h.1.of_block (hg.block g h.1.lt (by simp; omega)), fun i hi => ⟨(h.2 i hi).1, (h.2 i hi).2.1, (h.2 i hi).2.2.of_block (hg.block (B i) (h.2 i hi).2.2.lt (by have := (h.2 i hi).1; simp; omega))⟩⟩
/-- a row whose slices do not lie in a block. -/
theorem rds_grown {w w' : World} {a : Option Addr} {n cap : Nat} {ad : Nat → Option Addr} {ln cp : Nat → Nat} {f : Nat → Nat → T} (h : eH w a n cap ad ln cp f) {b : Nat} (hg : w.grownBy w' (some b)) (h1 : n = 0 ∨ ∀ c off, a = some ⟨c, off, none⟩ → c ≠ b) (h2 : ∀ i, i < n → ln i = 0 ∨ ∀ c off, ad i = some ⟨c, off, none⟩ → c ≠ b) : eH w' a n cap ad ln cp f := by
  refine ⟨h.1, h.2.1, ?_, fun i hi => (h.2.2.2 i hi).grown hg ((h2 i hi).imp id (fun hh c off e e' => hh c off e (by simpa using e')))⟩
  rcases h.2.2.1 with h0 | ⟨c, off, e, hlt, hc⟩
  · exact .inl h0
  · rcases h1 with h0 | h1
    · exact .inl h0
    · exact .inr ⟨c, off, e, Nat.lt_of_lt_of_le hlt hg.size, fun i hi => (World.cell?_of_block (a := ⟨c, off + i, none⟩) (hg.block c hlt (fun e2 => h1 c off e (by simpa using e2)))).trans (hc i hi)⟩
def LL (ln : Nat → Nat) (f : Nat → Nat → T) (i : Nat) : List T := (List.range (ln i)).map (f i)
theorem rds_LL {w : World} {a : Option Addr} {n c : Nat} {ad : Nat → Option Addr} {ln cp : Nat → Nat} {f : Nat → Nat → T} (h : eH w a n c ad ln cp f) : eH w a n c ad (lN (LL ln f)) cp (fN (LL ln f)) := by
  have e : lN (LL ln f) = ln := funext fun i => by show ((List.range (ln i)).map (f i)).length = ln i; simp
  rw [e]
  refine ⟨h.1, h.2.1, h.2.2.1, fun i hi => DW (h.2.2.2 i hi) (fun j hj => ?_)⟩
  show f i j = lf ((List.range (ln i)).map (f i)) j
  rw [iH (by simpa using hj)]
  simp
theorem Above.outB {lo : Nat} {w w' : World} (ha : Above lo w w') {m g : Nat} {la : Option Addr} {lc : Nat} {pa : Option Addr} {pc : Nat} {A : Nat → Nat → Option Addr} {C : Nat → Nat → Nat} {RA : Nat → Option Addr} {RC : Nat → Nat} {L : Nat → List T} {P : Nat → Nat → List T} (h : lF lo w m g la lc pa pc A C RA RC L P) : lF lo w' m g la lc pa pc A C RA RC L P :=
  h.fr (fun _ _ _ _ _ _ _ _ _ k => ha.outs k) ha.size (fun b x hl hs => World.cell?_of_block (a := ⟨b, x, none⟩) (ha.block b hl hs))
theorem r3_below {w w' : World} {pa : Option Addr} {m pc g : Nat} {A : Nat → Option Addr} {C : Nat → Nat} {AD : Nat → Nat → Option Addr} {CP : Nat → Nat → Nat} {P : Nat → Nat → List T} (h : R3 w pa m pc g A C AD CP P) (hb : Below w.heap.size w w') : R3 w' pa m pc g A C AD CP P := NH.below h hb
abbrev B3 (P : Nat) (v0 v1 v2 : Value) (u : World) : Prop := u.cell? ⟨P, 0, none⟩ = some v0 ∧ u.cell? ⟨P, 1, none⟩ = some v1 ∧ u.cell? ⟨P, 2, none⟩ = some v2
theorem B3.fr {Q : Nat → Prop} {P : Nat} {v0 v1 v2 : Value} {u u' : World} (h : B3 P v0 v1 v2 u) (hf : Fr Q u u') (hp : ¬ Q P) : B3 P v0 v1 v2 u' :=
  have l := World.block_lt_of_cell? u ⟨P, 0, none⟩ h.1
  ⟨(hf.cell (b := P) l hp).trans h.1, (hf.cell (b := P) l hp).trans h.2.1, (hf.cell (b := P) l hp).trans h.2.2⟩
theorem B3.below {P : Nat} {v0 v1 v2 : Value} {u u' : World} (h : B3 P v0 v1 v2 u) (hb : Below u.heap.size u u') : B3 P v0 v1 v2 u' := h.fr (Q := fun _ => False) (aO hb) id
theorem B3.apart {P lo hi : Nat} {v0 v1 v2 : Value} {u u' : World} (h : B3 P v0 v1 v2 u) (hA : nI lo hi u u') (hp : P < lo ∨ hi ≤ P) : B3 P v0 v1 v2 u' :=
  have l := World.block_lt_of_cell? u ⟨P, 0, none⟩ h.1
  ⟨(World.cell?_of_block (a := ⟨P, 0, none⟩) (hA.block P l hp)).trans h.1, (World.cell?_of_block (a := ⟨P, 1, none⟩) (hA.block P l hp)).trans h.2.1, (World.cell?_of_block (a := ⟨P, 2, none⟩) (hA.block P l hp)).trans h.2.2⟩
theorem box3 (w : World) (t : TypeId) (v0 v1 v2 : Value) : B3 w.heap.size v0 v1 v2 (w.alloc (.cells #[v0, v1, v2] t)) :=
  ⟨by rw [World.cell?_alloc_at _ _ _ _ rfl]; rfl, by rw [World.cell?_alloc_at _ _ _ _ rfl]; rfl, by rw [World.cell?_alloc_at _ _ _ _ rfl]; rfl⟩
set_option maxRecDepth 100000 in
set_option maxHeartbeats 16000000 in
theorem walk (x0 : Int) (a2 : Option Addr) (n2 c2 : Nat) (ad2 : Nat → Option Addr) (ln2 cp2 : Nat → Nat) (f2 : Nat → Nat → T) (x1 : Int) (w : World) (h2 : qI w a2 n2 c2 ad2 ln2 cp2 f2) : Calls Tryz.prog 3 #[.int .i64 x0, .slice a2 n2 c2, .int .i64 x1] w fun e w' => e = .returned (.bool true) ∧ Below w.heap.size w w' := by
  have q0 : (n2 : Int) ≤ 9223372036854775807 := by have := h2.1; have := h2.2.1; unfold maxLen at this; omega
  have q2 : ∀ i, i < n2 → (ln2 i : Int) ≤ 9223372036854775807 := fun i hi => by have h := h2.2.2.2 i hi; have := h.1; have := h.2.1; unfold maxLen at this; omega
  have H2 := aA h2
  have Q2 := aA q2
  clear h2 q2
  go_enter Tryz.func3, Tryz.ntmps3
  go_wp2_with fail
  refine (VP a2 n2 c2 ad2 ln2 cp2 1048576 w q0 (by omega) (by omega) H2.out.2.2.1 Q2.out).mono ?_
  rintro e w' ⟨z, rfl, hw', hz1, hz⟩
  obtain rfl := hw'.symm
  clear hw' Q2
  by_cases hneg : z < 0
  · go_wp2
    go_ret
    exact ⟨rfl, Below.refl _ _⟩
  have hb := hz (by omega)
  have hn40 : n2 * 40 ≤ 140737488351232 := by omega
  have hl40 : ∀ i, i < n2 → ln2 i * 40 ≤ 140737488351232 := fun i hi => by have := hb.2 i hi; omega
  have m2 : n2 ≤ 1048576 := by have := hb.1; omega
  have M2 : Hid (∀ i, i < n2 → ln2 i ≤ 1048576) := fun i hi => by have := hb.2 i hi; omega
  have R2 := aA (H2.out.rd hn40 hl40)
  have HL := aA hl40
  clear hz hb hl40 H2
  obtain ⟨m, BL, BP, d, hX⟩ : ∃ m BL BP d, iA x0 n2 (LL ln2 f2) x1 = (⟨m, BL, BP⟩, d) := ⟨_, _, _, _, rfl⟩
  obtain ⟨hm12, hg3, bd1, bd2⟩ := zX hX
  have HCS : Hid (∀ (W : World) (a : Option Addr) (c : Nat) (ad : Nat → Option Addr) (cp : Nat → Nat), eH W a n2 c ad ln2 cp f2 → _) := fun W a c ad cp hW => XZ (rds_LL hW) hX
  have HCI : Hid (∀ (W : World) (a : Option Addr) (c : Nat) (ad : Nat → Option Addr) (cp : Nat → Nat), eH W a n2 c ad ln2 cp f2 → _) := fun W a c ad cp hW => XY (rds_LL hW) hX
  obtain ⟨g, hg⟩ : ∃ g, IF m n2 = g := ⟨_, rfl⟩
  rw [hg] at hg3 bd2 HCS HCI
  have BD1 := aA bd1
  have BD2 := aA bd2
  obtain ⟨K, hK⟩ : ∃ K, kR (dK 1 (lN BL) m) g BP m = K := ⟨_, rfl⟩
  have hK1 := kZ (k := 1) bd1 m (Nat.le_refl _)
  have hK2 := CU (k := dK 1 (lN BL) m) (show g ≤ 12 by omega) bd2 m (Nat.le_refl _)
  rw [hK] at hK2
  have k0 : 0 ≤ K := by omega
  have HKK := aA hK
  have kq1 : decide (K < 0) = false := decide_eq_false (by omega)
  have kq1' : ¬ K < 0 := by omega
  have kq3 : (K != K) = false := by simp
  have hwn : (n2 : Int) ≤ 1048576 := by omega
  clear hX bd1 bd2 hg hK hK1 hK2
  go_wp2_with fail
  refine (AZ _ _ _ _ _ _ _ _ R2.out).mono ?_
  rintro e wb ⟨Bb, rfl, hb, hr, ho⟩
  have Lb := aA (nZ hr (fun i hi => (ho i hi).2) hn40 HL.out)
  have Bb' := aA hb
  clear hb hr ho
  go_wp2_with fail
  refine (HCS.out _ _ _ _ _ Lb.out).mono ?_
  rintro e wc0 ⟨sa, sc, sad, scp, spa, spc, sA, sC, sAD, sCP, rfl, hb, hs, hs3⟩
  have bx := aC wc0 (.cells #[.slice sa m sc, .slice spa m spc, .bool d] 27)
  have Bc := aA (aB (aB Bb'.out hb) bx)
  have SQ := aA (And.intro (hs.below bx) (r3_below hs3 bx))
  have WBc := aA (box3 wc0 27 (.slice sa m sc) (.slice spa m spc) (.bool d))
  have hWc : wc0.heap.size < (wc0.alloc (.cells #[.slice sa m sc, .slice spa m spc, .bool d] 27)).heap.size := by simp
  clear hb hs hs3 bx Lb Bb'
  go_wp2_with fail
  generalize (wc0.alloc (.cells #[.slice sa m sc, .slice spa m spc, .bool d] 27)) = wc at *
  refine (SF _ _ _ _ _ _ _ _ (R2.out.below Bc.out)).mono ?_
  rintro e we ⟨C, rfl, hb, hr, ho, hD⟩
  have Ye : Hid (Cp we wc.heap.size n2 we.heap.size C ln2 f2) := ⟨hr, fun i hi => ⟨(ho i hi).1, (ho i hi).2.lt, (ho i hi).2⟩⟩
  have DC := aA hD
  have Be := aA (aB Bc.out hb)
  have Se := aA hb
  have WBe := aA (WBc.out.below hb)
  have ze : wc.heap.size ≤ we.heap.size := hb.size
  clear hb hr ho hD WBc
  go_wp2_with fail
  refine (HCI.out _ _ _ _ _ (nZ Ye.out.1 (fun i hi => (Ye.out.2 i hi).2.2) hn40 HL.out)).mono ?_
  rintro e wf0 ⟨ga, gc, gpa, gpc, gA, gC, gRA, gRC, rfl, hb0, hO0⟩
  have bx := aC wf0 (.cells #[.slice ga m gc, .slice gpa m gpc, .bool d] 27)
  have hb := aB hb0 bx
  have hO := hO0.below bx
  have GO := aA hO
  have GO0 : Hid (∀ b, WV m g gA BL BP b → we.heap.size ≤ b ∧ b < wf0.heap.size) := fun b h => hO0.op h
  have Bf := aA (aB Be.out hb)
  have Sf := aA (aB Se.out hb)
  have WBf := aA (WBe.out.below hb)
  have GBf := aA (box3 wf0 27 (.slice ga m gc) (.slice gpa m gpc) (.bool d))
  have hGf : we.heap.size ≤ wf0.heap.size := hb0.size
  have Xf := aA hb
  have Af := aA (Above.refl we.heap.size (wf0.alloc (.cells #[.slice ga m gc, .slice gpa m gpc, .bool d] 27)))
  clear hb hb0 hO hO0 bx Be Se WBe
  obtain ⟨u0, u1, u2⟩ := WBf.out
  obtain ⟨v0, v1, v2⟩ := GBf.out
  go_wp2_with fail
  clear u0 u1 u2 v0 v1 v2
  generalize (wf0.alloc (.cells #[.slice ga m gc, .slice gpa m gpc, .bool d] 27)) = wf at *
  refine (zJ wf _ _ _ _ _ _ _ _ _ _ _ _ _ _ _ _ _ _ _ _ _ _ _ _ _ _ _ d (Af.out.outB GO.out).ls.rd (Af.out.outB GO.out).r3 (SQ.out.1.below Sf.out) (r3_below SQ.out.2 Sf.out)).mono ?_
  rintro e wg ⟨rfl, hb⟩
  have Bg := aA (aB Bf.out hb)
  have Sg := aA (aB Sf.out hb)
  have Xg := aA (aB Xf.out hb)
  have Ag := aA (Af.out.next hb)
  have WBg := aA (WBf.out.below hb)
  have GBg := aA (GBf.out.below hb)
  clear WBf GBf
  clear hb Bf Sf Xf Af
  go_wp2_with fail
  refine (AZ _ _ _ _ _ _ _ _ (R2.out.below Bg.out)).mono ?_
  rintro e wk ⟨Bk', rfl, hb, hr, ho⟩
  have Lk := aA (nZ hr (fun i hi => (ho i hi).2) hn40 HL.out)
  have Bk := aA (aB Bg.out hb)
  have Sk := aA (aB Sg.out hb)
  have Xk := aA (aB Xg.out hb)
  have Ak := aA (Ag.out.next hb)
  have WBk := aA (WBg.out.below hb)
  have GBk := aA (GBg.out.below hb)
  clear WBg GBg
  clear hb hr ho Bg Sg Xg Ag
  go_wp2_with fail
  refine (zK _ _ _ _ _ _ _ _ _ _ _ _ (nZ (Ye.out.below Xk.out).1 (fun i hi => ((Ye.out.below Xk.out).2 i hi).2.2) hn40 HL.out) Lk.out).mono ?_
  rintro e wl ⟨rfl, hb⟩
  have Bl := aA (aB Bk.out hb)
  have Sl := aA (aB Sk.out hb)
  have Xl := aA (aB Xk.out hb)
  have Al := aA (Ak.out.next hb)
  have WBl := aA (WBk.out.below hb)
  have GBl := aA (GBk.out.below hb)
  clear WBk GBk
  clear hb Bk Sk Xk Ak Lk
  have Yo := aA (Ye.out.below Xl.out)
  go_wp2_with fail
  refine (LP _ _ _ we.heap.size C ln2 f2 1 Yo.out.1 Yo.out.2 DC.out m2 M2.out (by omega) (by omega)).mono ?_
  rintro e wn ⟨x2, rfl, x20, x21, hA⟩
  have Bn := aA (apart_below Bl.out hA (by have := Bc.out.size; omega) (Nat.le_refl _))
  have Sn := aA (apart_below Sl.out hA (by omega) (Nat.le_refl _))
  have An := aA (Al.out.apart hA (Nat.le_refl _))
  have WBn := aA (WBl.out.apart hA (.inl (by omega)))
  have GBn := aA (GBl.out.apart hA (.inr (by omega)))
  clear WBl GBl
  clear hA Bl Sl Al Xl Yo
  have dk : decide (x2 < 0) = false := decide_eq_false (by omega)
  have dk' : ¬ x2 < 0 := by omega
  obtain ⟨u0, u1, u2⟩ := WBn.out
  obtain ⟨v0, v1, v2⟩ := GBn.out
  go_wp2_with fail
  clear u0 u1 u2 v0 v1 v2
  refine (zJ wn _ _ _ _ _ _ _ _ _ _ _ _ _ _ _ _ _ _ _ _ _ _ _ _ _ _ _ d (An.out.outB GO.out).ls.rd (An.out.outB GO.out).r3 (SQ.out.1.below Sn.out) (r3_below SQ.out.2 Sn.out)).mono ?_
  rintro e wp ⟨rfl, hb⟩
  have Bp := aA (aB Bn.out hb)
  have Sp := aA (aB Sn.out hb)
  have Ap := aA (An.out.next hb)
  have WBp := aA (WBn.out.below hb)
  have GBp := aA (GBn.out.below hb)
  clear WBn GBn
  clear hb Bn Sn An
  have GOp := aA (Ap.out.outB GO.out)
  have hwc : w.heap.size ≤ wc.heap.size := Bc.out.size
  obtain ⟨u0, u1, u2⟩ := WBp.out
  obtain ⟨v0, v1, v2⟩ := GBp.out
  go_wp2_with fail
  clear u0 u1 u2 v0 v1 v2
  refine (PC we.heap.size _ _ _ _ _ _ _ _ _ _ _ _ _ d GOp.out hm12 (by omega) BD1.out BD2.out).mono ?_
  rw [HKK.out]
  rintro e wr ⟨rfl, hOn, hRq⟩
  have Br := aA (Fr.below Bp.out hOn (fun k hk => by have := (GO0.out k hk).1; omega) (Nat.le_refl _))
  have Sr := aA (Fr.below Sp.out hOn (fun k hk => by have := (GO0.out k hk).1; omega) (Nat.le_refl _))
  have WBr := aA (WBp.out.fr hOn (fun q => by have := (GO0.out _ q).1; omega))
  have GBr := aA (GBp.out.fr hOn (fun q => by have := (GO0.out _ q).2; omega))
  have GQr := aA hRq
  clear hOn hRq GOp Bp Sp Ap WBp GBp
  obtain ⟨u0, u1, u2⟩ := WBr.out
  obtain ⟨v0, v1, v2⟩ := GBr.out
  go_wp2_with fail
  clear u0 u1 u2 v0 v1 v2
  refine (CT _ _ _ _ _ _ _ _ _ _ _ _ _ d GQr.out hm12 (by omega) BD1.out BD2.out).mono ?_
  rw [HKK.out]
  rintro e ws ⟨rfl, hb⟩
  have Bs' := aA (aB Br.out hb)
  have Ss' := aA (aB Sr.out hb)
  have GQs := aA (GQr.out.below hb)
  have WBs := aA (WBr.out.below hb)
  have GBs := aA (GBr.out.below hb)
  clear WBr GBr
  clear hb Br Sr GQr
  go_wp2_with fail
  refine (AZ _ _ _ _ _ _ _ _ (R2.out.below Bs'.out)).mono ?_
  rintro e wt ⟨Bt, rfl, hb, hr, ho⟩
  have Lt := aA (nZ hr (fun i hi => (ho i hi).2) hn40 HL.out)
  have Bt' := aA (aB Bs'.out hb)
  have St := aA (aB Ss'.out hb)
  have GQt := aA (GQs.out.below hb)
  have WBt := aA (WBs.out.below hb)
  have GBt := aA (GBs.out.below hb)
  clear WBs GBs
  clear hb hr ho Bs' Ss' GQs
  go_wp2_with fail
  refine (HCI.out _ _ _ _ _ Lt.out).mono ?_
  rintro e wu0 ⟨ha, hc, hpa, hpc, hA, hC, hRA, hRC, rfl, hb0, hO0⟩
  have bx := aC wu0 (.cells #[.slice ha m hc, .slice hpa m hpc, .bool d] 27)
  have hb := aB hb0 bx
  have UO := aA (hO0.below bx)
  have HBu := aA (box3 wu0 27 (.slice ha m hc) (.slice hpa m hpc) (.bool d))
  have Bu := aA (aB Bt'.out hb)
  have Su := aA (aB St.out hb)
  have GQu := aA (GQt.out.below hb)
  have WBu := aA (WBt.out.below hb)
  have GBu := aA (GBt.out.below hb)
  clear WBt GBt
  clear hb hb0 hO0 bx Lt Bt' St GQt
  obtain ⟨u0, u1, u2⟩ := WBu.out
  obtain ⟨v0, v1, v2⟩ := HBu.out
  go_wp2_with fail
  clear u0 u1 u2 v0 v1 v2
  generalize (wu0.alloc (.cells #[.slice ha m hc, .slice hpa m hpc, .bool d] 27)) = wu at *
  refine (zJ wu _ _ _ _ _ _ _ _ _ _ _ _ _ _ _ _ _ _ _ _ _ _ _ _ _ _ _ d UO.out.ls.rd UO.out.r3 (SQ.out.1.below Su.out) (r3_below SQ.out.2 Su.out)).mono ?_
  rintro e wv ⟨rfl, hb⟩
  have Bv := aA (aB Bu.out hb)
  have GQv := aA (GQu.out.below hb)
  have GBv := aA (GBu.out.below hb)
  clear hb UO Bu Su GQu HBu WBu GBu
  obtain ⟨v0, v1, v2⟩ := GBv.out
  go_wp2_with fail
  clear v0 v1 v2
  refine (CT _ _ _ _ _ _ _ _ _ _ _ _ _ d GQv.out hm12 (by omega) BD1.out BD2.out).mono ?_
  rw [HKK.out]
  rintro e wx ⟨rfl, hb⟩
  have Bx := aA (aB Bv.out hb)
  clear hb
  go_wp2
  go_ret
  exact ⟨rfl, Bx.out⟩
theorem own : ownKnob Tryz.prog.godebug = none := by kernel_rfl
theorem laidOut : laidOutB Tryz.prog = true := by kernel_rfl
set_option maxRecDepth 100000 in
theorem lifted (os : Os) (started : os.Started) (H : Type) (enc : TypeId × Value → H) :
    ReturnsInHanded {} Tryz.checked os 3 .any (Rows.fnExactGrbMakeSpec.pre6 enc Tryz.prog Tryz.f3 Rows.fnExactGrbMakeRow.domain false) (Rows.fnExactGrbMakeSpec.post enc Tryz.prog Tryz.f3 false true false false) := by
  refine returnsInHanded_of_change (C := Tryz.checked) own started (by kernel_rfl) Tryz.func3
    (ChangeSpec.witness6 (enc := enc) (C := Tryz.checked) false ⟨#[], #[.int .i64 0, .slice none 0 0, .int .i64 0], []⟩ 8 (by kernel_rfl) (by kernel_rfl) (by kernel_rfl) (by kernel_rfl)) ?_
  intro W base args ds gs before hval0 hW hcnd _
  have hval : ∀ (j : Nat) t v, Tryz.f3.params[j]? = some t → args[j]? = some v → Value.okWide Tryz.prog W .any base t v := hval0
  have hW' := hW
  obtain ⟨p, q, hA0, hV, rfl, hfz, hnd⟩ := hW
  have hA : DataW.TrodAll enc Tryz.prog W 0 (fun _ => true) true Tryz.f3.params.toList args.toList ds p := hA0
  rw [Tryz.params3] at hA hval
  obtain ⟨v0, vs0, d0, ds0, p0, q0, hargs, rfl, rfl, h0, r0⟩ := trodAll_cons hA
  obtain ⟨v1, vs1, d1, ds1, p1, q1, rfl, rfl, rfl, h1, r1⟩ := trodAll_cons r0
  obtain ⟨v2, vs2, d2, ds2, p2, q2, rfl, rfl, rfl, h2, r2⟩ := trodAll_cons r1
  obtain ⟨rfl, rfl, rfl⟩ := trodAll_nil r2
  obtain rfl : args = #[v0, v1, v2] := by cases args; simp_all
  obtain ⟨rfl, rfl⟩ := trodVars_none hV
  obtain ⟨x0, rfl, rfl, rfl, w0⟩ := open_int Tryz.underlying3 (hval 0 3 v0 rfl rfl) h0
  obtain ⟨a1, n1, c1, rfl⟩ := okWide_slice Tryz.underlying22 (hval 1 22 v1 rfl rfl)
  have k1 := h1
  have lt1 : ∀ x ∈ p1, x.block < W.heap.size := by obtain ⟨m, hm⟩ := k1; exact DataW.trod_lt m _ _ _ hm
  obtain ⟨ad1, ln1, cp1, f1, w1⟩ : ∃ ad ln cp f, qI W a1 n1 c1 ad ln cp f := by
    obtain ⟨fuel, hf⟩ := h1
    exact FR hf
  obtain ⟨x2, rfl, rfl, rfl, w2⟩ := open_int Tryz.underlying3 (hval 2 3 v2 rfl rfl) h2
  clear hA0 hval0
  refine (walk x0 a1 n1 c1 ad1 ln1 cp1 f1 x2 W w1).mono fun e W' ⟨he, bel⟩ => ?_
  subst he
  exact ⟨_, rfl, _, _, _, [], _, [], hW', trodAll_mk1 (shut_bool Tryz.underlying4 _), (trodAll_cons_mk (shut_int Tryz.underlying3 w0) (trodAll_cons_mk (Below.trod laidOut (by kernel_rfl) (of_decide_eq_true (by kernel_rfl)) k1 bel lt1) (trodAll_cons_mk (shut_int Tryz.underlying3 w2) trodAll_mk0))), rfl, bel.frame _, fun h => by cases h⟩
theorem over : Rows.fnExactGrbMakeRow.holds Tryz.pinned (OpenSpec.ofChange Rows.fnExactGrbMakeSpec) :=
  OpenClaim.holds_of_wide 3 Tryz.f3 rfl rfl rfl rfl rfl rfl rfl ⟨rfl, rfl, rfl, rfl, rfl⟩ rfl rfl rfl rfl rfl (by kernel_rfl) Tryz.func3 (by kernel_rfl)
    (of_decide_eq_true (by kernel_rfl)) (by unfold Func.isWrapper; first | (rw [if_pos (by decide +kernel)]; kernel_rfl) | (rw [if_neg (by decide +kernel)]; exact ⟨rfl, rfl⟩))
    (fun os started H enc _ => lifted os started H enc)
end Go.Proofs.YtelkehjdfcoeiaaGreat.fnExactGrbMake
namespace Go.Proofs.YtelkehjdfcoeiaaGreat
theorem fnExactGrbMake_holds : Rows.FnExactGrbMakeSaid := fnExactGrbMake.over
#print axioms fnExactGrbMake_holds
end Go.Proofs.YtelkehjdfcoeiaaGreat
