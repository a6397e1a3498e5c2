/-
  FnExactDskDo: at every argument the program answers as its model; it writes into no argument, and its answer owns its memory; the listed tables of the library and the table of words are as the program lays them (the card ties them).
-/
import Derived.Test.YtoglomfejgpoeaaGreatDoorTie
import Derived.Test.YtoglomfejgpoeaaGreatDoorCards
import Derived.ChangeVars
import Derived.ChangeOld
import Derived.Lay
import Derived.SevenTiedAt
import Derived.Stop.Joined
import Derived.Test.YtoglomfejgpoeaaGreatDoorMay
import Derived.Test.YtoglomfejgpoeaaGreatDoorMaz
import Derived.Test.YtoglomfejgpoeaaGreatDoorMCab
namespace Go.Proofs.YtoglomfejgpoeaaGreatDoor.fnExactDskDo
open Go.ChangeShapes Go.WideShapes Go.ChangeAt Go.RowKit Go.Deep Go.Joins
set_option linter.unusedVariables false
theorem apart_rd {lo hi : Nat} {w w' : World} {a : Option Addr} {n cap : Nat} {f : Nat → T} (h : Rd w a n cap f) (hA : jB lo hi w w') (hb : n = 0 ∨ ∀ b off, a = some ⟨b, off, none⟩ → b < lo ∨ hi ≤ b) : Rd w' a n cap f := by
  obtain ⟨h1, h2, h3⟩ := h
  refine ⟨h1, h2, ?_⟩
  rcases h3 with h0 | ⟨b, off, rfl, hlt, hc⟩
  · exact .inl h0
  · rcases hb with h0 | hb
    · exact .inl h0
    · exact .inr ⟨b, off, rfl, by rw [hA.size]; exact hlt, fun i hi => (hc i hi).same (hA.block b hlt (hb b off rfl))⟩
theorem apart_wr {lo hi : Nat} {w w' : World} {a : Option Addr} {n : Nat} {f : Nat → T} (h : Wr w a n f) (hA : jB lo hi w w') (hb : n = 0 ∨ ∀ b off, a = some ⟨b, off, none⟩ → b < lo ∨ hi ≤ b) : Wr w' a n f := by
  rcases h with h0 | ⟨g, off, N, F, rfl, hR, hN, hF⟩
  · exact .inl h0
  · rcases hb with h0 | hb
    · exact .inl h0
    · exact .inr ⟨g, off, N, F, rfl, hR.of_block (hA.block g hR.lt (hb g off rfl)), hN, hF⟩
theorem apart_below {lo hi : Nat} {v w w' : World} (h : Below v.heap.size v w) (hA : jB lo hi w w') (hn : v.heap.size ≤ lo) : Below v.heap.size v w' :=
  ⟨hA.os.trans h.os, hA.tape.trans h.tape, hA.output.trans h.output, by rw [hA.size]; exact h.size, fun k hk => (hA.block k (Nat.lt_of_lt_of_le hk h.size) (.inl (Nat.lt_of_lt_of_le hk hn))).trans (h.block k hk)⟩
/-- a copy of lists. -/
def Cp (w : World) (g n hi : Nat) (B ln : Nat → Nat) (f : Nat → Nat → T) : Prop := w.rowIs g 22 n (gD B ln n) ∧ ∀ i, i < n → g < B i ∧ B i < hi ∧ Own w (B i) (ln i) (f i)
theorem Cp.below {w w' : World} {g n hi : Nat} {B ln : Nat → Nat} {f : Nat → Nat → T} (h : Cp w g n hi B ln f) (hb : Below w.heap.size w w') : Cp w' g n hi B ln f :=
  ⟨h.1.of_block (hb.block g h.1.lt), fun i hi => ⟨(h.2 i hi).1, (h.2 i hi).2.1, (h.2 i hi).2.2.below hb (h.2 i hi).2.2.lt⟩⟩
theorem Cp.apart {w w' : World} {g n hi : Nat} {B ln : Nat → Nat} {f : Nat → Nat → T} {lo hi' : Nat} (h : Cp w g n hi B ln f) (hA : jB lo hi' w w') (hg : hi' ≤ g) : Cp w' g n hi B ln f :=
  ⟨h.1.of_block (hA.block g h.1.lt (.inr hg)), fun i hi => ⟨(h.2 i hi).1, (h.2 i hi).2.1, (h.2 i hi).2.2.of_block (hA.block (B i) (h.2 i hi).2.2.lt (.inr (by have := (h.2 i hi).1; omega)))⟩⟩
abbrev TwoL (B B5 : Nat) (k to a b : Int) (pa : Option Addr) (n cap : Nat) (pb : Option Addr) (cb : Nat) (u : World) : Prop :=
  (u.cell? ⟨B, 0, none⟩ = some (.int .i64 k) ∧ u.cell? ⟨B, 1, none⟩ = some (.int .i64 to) ∧ u.cell? ⟨B, 2, none⟩ = some (.int .i64 a) ∧ u.cell? ⟨B, 3, none⟩ = some (.int .i64 b) ∧ u.cell? ⟨B, 4, none⟩ = some (.slice pa n cap)) ∧ (u.cell? ⟨B5, 0, none⟩ = some (.int .i64 k) ∧ u.cell? ⟨B5, 1, none⟩ = some (.int .i64 to) ∧ u.cell? ⟨B5, 2, none⟩ = some (.int .i64 a) ∧ u.cell? ⟨B5, 3, none⟩ = some (.int .i64 b) ∧ u.cell? ⟨B5, 4, none⟩ = some (.slice pb n cb))
theorem TwoL.below {B B5 : Nat} {k to a b : Int} {pa : Option Addr} {n cap : Nat} {pb : Option Addr} {cb : Nat} {u u' : World} {N : Nat} (h : TwoL B B5 k to a b pa n cap pb cb u) (hb : Below N u u') (h1 : B < N) (h2 : B5 < N) : TwoL B B5 k to a b pa n cap pb cb u' :=
  ⟨⟨(hb.cell (p := ⟨B, 0, none⟩) h1).trans h.1.1, (hb.cell (p := ⟨B, 1, none⟩) h1).trans h.1.2.1, (hb.cell (p := ⟨B, 2, none⟩) h1).trans h.1.2.2.1, (hb.cell (p := ⟨B, 3, none⟩) h1).trans h.1.2.2.2.1, (hb.cell (p := ⟨B, 4, none⟩) h1).trans h.1.2.2.2.2⟩, ⟨(hb.cell (p := ⟨B5, 0, none⟩) h2).trans h.2.1, (hb.cell (p := ⟨B5, 1, none⟩) h2).trans h.2.2.1, (hb.cell (p := ⟨B5, 2, none⟩) h2).trans h.2.2.2.1, (hb.cell (p := ⟨B5, 3, none⟩) h2).trans h.2.2.2.2.1, (hb.cell (p := ⟨B5, 4, none⟩) h2).trans h.2.2.2.2.2⟩⟩
theorem bel_of_dr {n : Nat} {u w' : World} (h : Below n u.drew w') : Below n u w' := ⟨h.os, h.tape, h.output, h.size, h.block⟩
abbrev Five (B : Nat) (k to a b : Int) (pa : Option Addr) (n cap : Nat) (u : World) : Prop := u.cell? ⟨B, 0, none⟩ = some (.int .i64 k) ∧ u.cell? ⟨B, 1, none⟩ = some (.int .i64 to) ∧ u.cell? ⟨B, 2, none⟩ = some (.int .i64 a) ∧ u.cell? ⟨B, 3, none⟩ = some (.int .i64 b) ∧ u.cell? ⟨B, 4, none⟩ = some (.slice pa n cap)
theorem Five.below {B : Nat} {k to a b : Int} {pa : Option Addr} {n cap N : Nat} {u u' : World} (h : Five B k to a b pa n cap u) (hb : Below N u u') (h1 : B < N) : Five B k to a b pa n cap u' :=
  ⟨(hb.cell (p := ⟨B, 0, none⟩) h1).trans h.1, (hb.cell (p := ⟨B, 1, none⟩) h1).trans h.2.1, (hb.cell (p := ⟨B, 2, none⟩) h1).trans h.2.2.1, (hb.cell (p := ⟨B, 3, none⟩) h1).trans h.2.2.2.1, (hb.cell (p := ⟨B, 4, none⟩) h1).trans h.2.2.2.2⟩
theorem rd_beside {w w' : World} {a : Option Addr} {n cap B : Nat} {f : Nat → T} (h : Rd w a n cap f) (hA : aH B w w') (hb : n = 0 ∨ ∀ b off, a = some ⟨b, off, none⟩ → b ≠ B) : Rd w' a n cap f := by
  obtain ⟨h1, h2, h3⟩ := h
  refine ⟨h1, h2, ?_⟩
  rcases h3 with h0 | ⟨b, off, rfl, hlt, hc⟩
  · exact .inl h0
  · rcases hb with h0 | hb
    · exact .inl h0
    · exact .inr ⟨b, off, rfl, Nat.lt_of_lt_of_le hlt hA.size, fun i hi => (hc i hi).same (hA.block b hlt (hb b off rfl))⟩
theorem wr_beside {w w' : World} {a : Option Addr} {n B : Nat} {f : Nat → T} (h : Wr w a n f) (hA : aH B w w') (hb : n = 0 ∨ ∀ b off, a = some ⟨b, off, none⟩ → b ≠ B) : Wr w' a n f := by
  rcases h with h0 | ⟨g, off, N, F, rfl, hR, hN, hF⟩
  · exact .inl h0
  · rcases hb with h0 | hb
    · exact .inl h0
    · exact .inr ⟨g, off, N, F, rfl, hR.of_block (hA.block g hR.lt (hb g off rfl)), hN, hF⟩
set_option maxRecDepth 100000 in
set_option maxHeartbeats 16000000 in
theorem walk (a0 : Option Addr) (n0 c0 : Nat) (ad0 : Nat → Option Addr) (ln0 cp0 : Nat → Nat) (f0 : Nat → Nat → T) (k to a b : Int) (pa : Option Addr) (n cap : Nat) (f : Nat → T) (w : World) (h0 : kW w a0 n0 c0 ad0 ln0 cp0 f0) (h1 : gW w pa n cap f) (hT : Tb w) (hD : Dw w) : Calls Tryz.prog 4 #[.slice a0 n0 c0, .agg #[.int .i64 k, .int .i64 to, .int .i64 a, .int .i64 b, .slice pa n cap]] w fun e w' => e = .returned (.bool true) ∧ Below w.heap.size w w' := by
  have q0 : (n0 : Int) ≤ 9223372036854775807 := by have := h0.1; have := h0.2.1; unfold maxLen at this; omega
  have q1 : (n : Int) ≤ 9223372036854775807 := by have := h1.1; have := h1.2.1; unfold maxLen at this; omega
  have q2 : ∀ i, i < n0 → (ln0 i : Int) ≤ 9223372036854775807 := fun i hi => by have h := h0.2.2.2 i hi; have := h.1; have := h.2.1; unfold maxLen at this; omega
  have hb0 := aG w (.cells #[.int .i64 k, .int .i64 to, .int .i64 a, .int .i64 b, .slice pa n cap] 33)
  have h3 : n0 = 0 ∨ ∃ b9 off, a0 = some ⟨b9, off, none⟩ ∧ b9 < (w.alloc (.cells #[.int .i64 k, .int .i64 to, .int .i64 a, .int .i64 b, .slice pa n cap] 33)).heap.size ∧ ∀ i, i < n0 → (w.alloc (.cells #[.int .i64 k, .int .i64 to, .int .i64 a, .int .i64 b, .slice pa n cap] 33)).cell? ⟨b9, off + i, none⟩ = some (.slice (ad0 i) (ln0 i) (cp0 i)) := h0.2.2.1.imp id (fun ⟨b, off, e, hl, hc⟩ => ⟨b, off, e, Nat.lt_of_lt_of_le hl hb0.size, fun i hi => (hb0.cell (p := ⟨b, off + i, none⟩) hl).trans (hc i hi)⟩)
  have HA0 : Hid ((w.alloc (.cells #[.int .i64 k, .int .i64 to, .int .i64 a, .int .i64 b, .slice pa n cap] 33)).heap[w.heap.size]? = some (.cells #[.int .i64 k, .int .i64 to, .int .i64 a, .int .i64 b, .slice pa n cap] 33 (0, 0))) := aA (heap_alloc_new w _)
  have HB0 := aA hb0
  have HSZ := aA (EM a0 n0 c0 ad0 ln0 cp0 1048576 _ q0 (by omega) (by omega) h3 q2)
  have H0 := aA h0
  have H1 := aA h1
  have HT := aA hT
  have HD := aA hD
  have hl0 : w.heap.size < (w.alloc (.cells #[.int .i64 k, .int .i64 to, .int .i64 a, .int .i64 b, .slice pa n cap] 33)).heap.size := by simp
  clear h0 h1 q2 h3 hb0 hT hD
  go_enter Tryz.func4, Tryz.ntmps4
  go_wp2_with fail
  refine HSZ.out.mono ?_
  rintro e w' ⟨z, rfl, hw', hz1, hz⟩
  obtain rfl := hw'.symm
  clear hw' HSZ
  by_cases hneg : z < 0
  · go_wp2
    go_ret
    exact ⟨rfl, HB0.out⟩
  have hb0 := hz (by omega)
  have hz0 : 0 ≤ z := by omega
  have HBD := aA hb0
  clear hz hb0
  by_cases s1 : z - (n : Int) < 0
  · go_wp2_with fail
    refine (BX k to a b pa n cap z _ q1 hz0 hz1).mono ?_
    rw [if_pos s1]
    rintro e w1 ⟨rfl, hb⟩
    have Z1 := aA (aC HB0.out hb)
    clear hb
    go_wp2
    go_ret
    exact ⟨rfl, Z1.out⟩
  have kn : n * 40 ≤ 140737488351232 := by omega
  have mn : n ≤ 1048576 := by omega
  have m0 : n0 ≤ 1048576 := by have := HBD.out.1; omega
  have M0 : Hid (∀ i, i < n0 → ln0 i ≤ 1048576) := fun i hi => by have := HBD.out.2 i hi; omega
  have k0 : n0 * 40 ≤ 140737488351232 := by omega
  have K0 : Hid (∀ i, i < n0 → ln0 i * 40 ≤ 140737488351232) := fun i hi => by have := M0.out i hi; omega
  obtain ⟨p, rfl, hpp⟩ := wA (H1.out.rd kn)
  have RP : Hid (Rd w pa p.length cap (lf p)) := hpp
  have RS := aA (H0.out.rd k0 K0.out)
  obtain ⟨y, hy⟩ : ∃ y : Int, z - (p.length : Int) = y := ⟨_, rfl⟩
  have hy0 : ¬ y < 0 := by omega
  obtain ⟨L, ok, hL⟩ : ∃ L ok, aJ k to a b p n0 ln0 f0 = (L, ok) := ⟨_, _, rfl⟩
  have HLe := aA hL
  have hne : (ok != ok) = false := by simp
  have lenL : L.length ≤ 400 := by
    have := pV k to a b p n0 ln0 f0
    rw [hL] at this; exact this
  clear hL hpp H0 H1 HBD
  go_wp2_with fail
  refine (BX k to a b pa p.length cap z _ q1 hz0 hz1).mono ?_
  rw [if_neg (show ¬ z - (p.length : Int) < 0 by omega), hy]
  rintro e w1 ⟨rfl, hb⟩
  have Z1 := aA (aC HB0.out hb)
  have A1 := aA ((hb.block _ hl0).trans HA0.out)
  have hlt1 : w.heap.size < w1.heap.size := Nat.lt_of_lt_of_le hl0 hb.size
  clear hb HB0 HA0 hy s1 hl0
  go_wp2_with fail
  have HS0 : Hid (Five w.heap.size k to a b pa p.length cap w1.drew) := aA (dS A1.out).1
  have hd1 : w.heap.size < w1.drew.heap.size := hlt1
  have RS1 := aA ((RS.out.below Z1.out).below (Below.refl _ _).drew)
  have RP1 := aA ((RP.out.below Z1.out).below (Below.refl _ _).drew)
  have Zd := aA Z1.out.drew
  have Ad : Hid (w1.drew.heap[w.heap.size]? = some (.cells #[.int .i64 k, .int .i64 to, .int .i64 a, .int .i64 b, .slice pa p.length cap] 33 (0, 0))) := aA A1.out
  clear Z1 A1
  go_region_held3 (fun u => u.cell? ⟨w.heap.size, 0, none⟩ = some (.int .i64 k) ∧ u.cell? ⟨w.heap.size, 1, none⟩ = some (.int .i64 to) ∧ u.cell? ⟨w.heap.size, 2, none⟩ = some (.int .i64 a) ∧ u.cell? ⟨w.heap.size, 3, none⟩ = some (.int .i64 b) ∧ u.cell? ⟨w.heap.size, 4, none⟩ = some (.slice pa p.length cap)) (first | with_reducible exact HSc.out | with_reducible exact HSb.out | with_reducible exact HSa.out | with_reducible exact HS0.out) (first | (go_at_call 16; refine (sB _ _ _ _ _ _ _ _ RS1.out).mono ?_; rintro e wa ⟨Ba, rfl, hb, hr, ho⟩; have La := aA (jQ hr (fun i hi => (ho i hi).2) k0 K0.out); have BBa := aA hb; have hla : w.heap.size < wa.heap.size := Nat.lt_of_lt_of_le hd1 hb.size; have HSa := aA (HS0.out.below hb hd1); clear hb hr ho) | (go_at_call 17; refine (vK k to a b pa p.length cap (lf p) _ (RP1.out.below BBa.out)).mono ?_; rintro e wb ⟨gb, rfl, hb, ho⟩; have Lb := aA (La.out.below hb); have Ob := aA (ho.rd kn); have HSb := aA (HSa.out.below hb hla); have hlb : w.heap.size < wb.heap.size := Nat.lt_of_lt_of_le hla hb.size; have BBb := aA (aC BBa.out hb); clear hb ho) | (go_at_call 15; refine (zS k to a b _ _ _ _ _ _ _ _ _ p _ Lb.out Ob.out).mono ?_; rw [HLe.out]; rintro e wc ⟨vs, rfl, hb, hown⟩; have BBc := aA (aC BBb.out hb); have HOW := aA hown; have HSc := aA (HSb.out.below hb hlb); clear hb hown; (obtain ⟨asp, csp, rfl, hout⟩ := aM HOW.out (by show L.length * 40 ≤ _; omega)); have Sc := aA hout.1; have US := aA hout.1.under; clear hout))
  have Z3 := aA (aC Zd.out BBc.out)
  have A3 := aA ((BBc.out.block _ hd1).trans Ad.out)
  have hlt3 : w.heap.size < wc.heap.size := Nat.lt_of_lt_of_le hd1 BBc.out.size
  clear BBc BBa BBb La Lb Ob HOW HSa HSb HSc HS0 RS1 RP1 Zd Ad hd1 hla hlb
  go_wp2_with fail
  refine (CB _ _ _ _ _ _ _ _ (RS.out.below Z3.out)).mono ?_
  rintro e wd ⟨B, rfl, hb, hr, ho, hD⟩
  have Xd : Hid (Cp wd wc.heap.size n0 wd.heap.size B ln0 f0) := ⟨hr, fun i hi => ⟨(ho i hi).1, (ho i hi).2.lt, (ho i hi).2⟩⟩
  have DB := aA hD
  have Z4 := aA (aC Z3.out hb)
  have Sd := aA (Sc.out.below hb)
  have hcd : wc.heap.size ≤ wd.heap.size := hb.size
  have A4 := aA ((hb.block _ hlt3).trans A3.out)
  have hlt4 : w.heap.size < wd.heap.size := Nat.lt_of_lt_of_le hlt3 hcd
  have hwc : w.heap.size ≤ wc.heap.size := Nat.le_of_lt hlt3
  clear hb hr ho hD Sc Z3 A3
  obtain ⟨⟨x0, x1, x2, x3, x4⟩, xz⟩ := dS A4.out
  go_wp2_with fail
  clear x0 x1 x2 x3 x4 xz
  refine (EN k to a b pa p.length cap (lf p) _ (RP.out.below Z4.out)).mono ?_
  rintro e we ⟨g, rfl, hb, ho, hgd⟩
  have hbx := aG we (.cells #[.int .i64 k, .int .i64 to, .int .i64 a, .int .i64 b, .slice (some ⟨g, 0, none⟩) p.length p.length] 24)
  have hb4 := aC hb hbx
  have Z5 := aA (aC Z4.out hb4)
  have A5 := aA ((hb4.block _ hlt4).trans A4.out)
  have O5 := aA (ho.below hbx ho.lt)
  have X5 := aA (heap_alloc_new we (.cells #[.int .i64 k, .int .i64 to, .int .i64 a, .int .i64 b, .slice (some ⟨g, 0, none⟩) p.length p.length] 24))
  have C5 := aA (Xd.out.below hb4)
  have S5 := aA (Sd.out.below hb4)
  have hde : wd.heap.size ≤ we.heap.size := hb.size
  have hge : g < we.heap.size := ho.lt
  have hlt5 : we.heap.size < (we.alloc (.cells #[.int .i64 k, .int .i64 to, .int .i64 a, .int .i64 b, .slice (some ⟨g, 0, none⟩) p.length p.length] 24)).heap.size := by simp
  have hneB : w.heap.size ≠ we.heap.size := by omega
  clear hb hb4 hbx ho Z4 A4 Xd Sd
  obtain ⟨⟨x0, x1, x2, x3, x4⟩, xz⟩ := dS X5.out
  go_wp2_with fail
  clear x0 x1 x2 x3 x4 xz
  generalize (we.alloc (.cells #[.int .i64 k, .int .i64 to, .int .i64 a, .int .i64 b, .slice (some ⟨g, 0, none⟩) p.length p.length] 24)) = w5 at Z5 A5 O5 X5 C5 S5 hlt5 ⊢
  obtain ⟨E, hE⟩ : ∃ E, we.heap.size = E := ⟨_, rfl⟩
  rw [hE] at X5 hde hge hlt5 hneB ⊢
  clear hE
  refine (uT k to a b _ _ _ _ _ _ _ _ _ p _ (jQ C5.out.1 (fun i hi => (C5.out.2 i hi).2.2) k0 K0.out) (O5.out.rd kn) (HT.out.below Z5.out) (HD.out.below Z5.out)).mono ?_
  rw [HLe.out]
  rintro e w6 ⟨ag, cg, rfl, hb, hout⟩
  have FG := aA hout.from
  have G6 := aA (And.intro hout.1 hout.2.1)
  have h56 : w5.heap.size ≤ w6.heap.size := hb.size
  have Z6 := aA (aC Z5.out hb)
  have A6 := aA ((hb.block _ (by omega)).trans A5.out)
  have X6 := aA ((hb.block _ (by omega)).trans X5.out)
  have O6 := aA (O5.out.below hb O5.out.lt)
  have C6 := aA (C5.out.below hb)
  have S6 := aA (S5.out.below hb)
  clear Z5 A5 X5 O5 C5 S5 hb hout
  go_wp2_with fail
  refine (lF _ _ _ _ _ _ _ _ _ G6.out.1 S6.out).mono ?_
  rw [fH]
  rintro e w7 ⟨rfl, hb⟩
  have h67 : w6.heap.size ≤ w7.heap.size := hb.size
  have Z7 := aA (aC Z6.out hb)
  have A7 := aA ((hb.block _ (by omega)).trans A6.out)
  have X7 := aA ((hb.block _ (by omega)).trans X6.out)
  have O7 := aA (O6.out.below hb O6.out.lt)
  have C7 := aA (C6.out.below hb)
  have S7 := aA (S6.out.below hb)
  have G7 := aA (And.intro (G6.out.1.below hb) (G6.out.2.below hb))
  clear Z6 A6 X6 O6 C6 S6 G6 hb
  go_wp2_with fail
  refine (sB _ _ _ _ _ _ _ _ (RS.out.below Z7.out)).mono ?_
  rintro e w8 ⟨Bh, rfl, hb, hr, ho⟩
  have Lh := aA (jQ hr (fun i hi => (ho i hi).2) k0 K0.out)
  have h78 : w7.heap.size ≤ w8.heap.size := hb.size
  clear hr ho
  have Z8 := aA (aC Z7.out hb)
  have A8 := aA ((hb.block _ (by omega)).trans A7.out)
  have X8 := aA ((hb.block _ (by omega)).trans X7.out)
  have O8 := aA (O7.out.below hb O7.out.lt)
  have C8 := aA (C7.out.below hb)
  have S8 := aA (S7.out.below hb)
  have G8 := aA (And.intro (G7.out.1.below hb) (G7.out.2.below hb))
  clear Z7 A7 X7 O7 C7 S7 G7 hb
  go_wp2_with fail
  refine (DI _ _ _ _ _ _ _ _ _ _ _ _ (jQ C8.out.1 (fun i hi => (C8.out.2 i hi).2.2) k0 K0.out) Lh.out).mono ?_
  rintro e w9 ⟨rfl, hb⟩
  have h89 : w8.heap.size ≤ w9.heap.size := hb.size
  clear Lh
  have Z9 := aA (aC Z8.out hb)
  have A9 := aA ((hb.block _ (by omega)).trans A8.out)
  have X9 := aA ((hb.block _ (by omega)).trans X8.out)
  have O9 := aA (O8.out.below hb O8.out.lt)
  have C9 := aA (C8.out.below hb)
  have S9 := aA (S8.out.below hb)
  have G9 := aA (And.intro (G8.out.1.below hb) (G8.out.2.below hb))
  clear Z8 A8 X8 O8 C8 S8 G8 hb
  go_wp2_with fail
  obtain ⟨a0', az⟩ := dS A9.out
  obtain ⟨b0', bz⟩ := dS X9.out
  have HSD : Hid (TwoL w.heap.size E k to a b pa p.length cap (some ⟨g, 0, none⟩) p.length w9.drew) := aA ⟨a0', b0'⟩
  have hd1 : w.heap.size < w9.drew.heap.size := by show w.heap.size < w9.heap.size; omega
  have hd2 : E < w9.drew.heap.size := by show E < w9.heap.size; omega
  have HD1 := aA hd1
  have HD2 := aA hd2
  clear az bz a0' b0' 
  go_region_held3 (fun u => (u.cell? ⟨w.heap.size, 0, none⟩ = some (.int .i64 k) ∧ u.cell? ⟨w.heap.size, 1, none⟩ = some (.int .i64 to) ∧ u.cell? ⟨w.heap.size, 2, none⟩ = some (.int .i64 a) ∧ u.cell? ⟨w.heap.size, 3, none⟩ = some (.int .i64 b) ∧ u.cell? ⟨w.heap.size, 4, none⟩ = some (.slice pa p.length cap)) ∧ (u.cell? ⟨E, 0, none⟩ = some (.int .i64 k) ∧ u.cell? ⟨E, 1, none⟩ = some (.int .i64 to) ∧ u.cell? ⟨E, 2, none⟩ = some (.int .i64 a) ∧ u.cell? ⟨E, 3, none⟩ = some (.int .i64 b) ∧ u.cell? ⟨E, 4, none⟩ = some (.slice (some ⟨g, 0, none⟩) p.length p.length))) (first | with_reducible exact (HSD.out.below HBT.out HD1.out HD2.out).below HBE.out HD3.out HD4.out | with_reducible exact HSD.out.below HBT.out HD1.out HD2.out | with_reducible exact HSD.out) (first | (go_at_call 17; refine (vK k to a b pa p.length cap (lf p) _ ((RP.out.below Z9.out).below (Below.refl _ _).drew)).mono ?_; rintro e v7 ⟨g7, rfl, hb7, ho7⟩; have HBT := aA hb7; have HO7 := aA ho7; have hlt7 : w9.drew.heap.size ≤ v7.heap.size := hb7.size; have HD3 : Hid (w.heap.size < v7.heap.size) := aA (Nat.lt_of_lt_of_le HD1.out hlt7); have HD4 : Hid (E < v7.heap.size) := aA (Nat.lt_of_lt_of_le HD2.out hlt7); clear hb7 ho7 hlt7) | (go_at_call 10; refine (FY k to a b (some ⟨g, 0, none⟩) _ p.length p.length _ (lf p) _ ((O9.out.below (bel_of_dr HBT.out) O9.out.lt).rd kn) (HO7.out.rd kn)).mono ?_; rintro e w10 ⟨rfl, hb8⟩; have HBE := aA hb8; clear hb8))
  have hb : Below w9.heap.size w9 w10 := aC (bel_of_dr HBT.out) HBE.out
  have h9a : w9.heap.size ≤ w10.heap.size := hb.size
  clear HBT HBE HO7 HD3 HD4 HSD HD1 HD2 hd1 hd2
  have Z10 := aA (aC Z9.out hb)
  have A10 := aA ((hb.block _ (by omega)).trans A9.out)
  have X10 := aA ((hb.block _ (by omega)).trans X9.out)
  have O10 := aA (O9.out.below hb O9.out.lt)
  have C10 := aA (C9.out.below hb)
  have S10 := aA (S9.out.below hb)
  have G10 := aA (And.intro (G9.out.1.below hb) (G9.out.2.below hb))
  clear Z9 A9 X9 O9 C9 S9 G9 hb
  have OS : Hid (∀ lo hi, wc.heap.size ≤ lo → L.length = 0 ∨ ∀ b off, asp = some ⟨b, off, none⟩ → b < lo ∨ hi ≤ b) := fun lo hi hlo => by
    rcases US.out with h | h
    · exact .inl h
    · exact .inr fun b off e => .inl (by have := h b off e; omega)
  have OG : Hid (∀ lo hi, hi ≤ w5.heap.size → L.length = 0 ∨ ∀ b off, ag = some ⟨b, off, none⟩ → b < lo ∨ hi ≤ b) := fun lo hi hhi => by
    rcases FG.out with h | h
    · exact .inl h
    · exact .inr fun b off e => .inr (by have := h b off e; omega)
  go_wp2_with fail
  refine (xU _ _ _ wd.heap.size B ln0 f0 1 C10.out.1 C10.out.2 DB.out m0 M0.out (by omega) (by omega)).mono ?_
  rintro e w11 ⟨x1, rfl, x10, x11, hA⟩
  have G11 := aA (And.intro (apart_rd G10.out.1 hA (OG.out _ _ (by omega))) (apart_wr G10.out.2 hA (OG.out _ _ (by omega))))
  have S11 := aA (apart_rd S10.out hA (OS.out _ _ (Nat.le_succ _)))
  have Z11 := aA (apart_below Z10.out hA (by omega))
  have A11 := aA ((hA.block _ (by omega) (.inl (by omega))).trans A10.out)
  have X11 := aA ((hA.block _ (by omega) (.inr (by omega))).trans X10.out)
  have O11 := aA (O10.out.of_block (hA.block _ O10.out.lt (.inr (by omega))))
  have s11 : w11.heap.size = w10.heap.size := hA.size
  clear hA G10 S10 C10 Z10 A10 X10 O10
  obtain ⟨⟨y0, y1, y2, y3, y4⟩, yz⟩ := dS X11.out
  go_wp2_with fail
  clear y0 y1 y2 y3 y4 yz
  refine (AN k to a b g p.length (lf p) x1 _ O11.out mn x10 (by omega)).mono ?_
  rintro e w12 ⟨rfl, hs⟩
  have hgB : g < w11.heap.size := O11.out.lt
  have hgw : w.heap.size ≤ g := by omega
  have FN : Hid (L.length = 0 ∨ ∀ b off, ag = some ⟨b, off, none⟩ → b ≠ g) := aA (FG.out.imp id (fun h b off e => by have := h b off e; omega))
  have UN : Hid (L.length = 0 ∨ ∀ b off, asp = some ⟨b, off, none⟩ → b ≠ g) := aA (US.out.imp id (fun h b off e => by have := h b off e; omega))
  have G12 := aA (And.intro (rd_beside G11.out.1 hs FN.out) (wr_beside G11.out.2 hs FN.out))
  have S12 := aA (rd_beside S11.out hs UN.out)
  have Z12 := aA (hs.below Z11.out hgw Z11.out.size)
  have A12 := aA ((hs.block _ (by omega) (by omega)).trans A11.out)
  have s12 : w11.heap.size ≤ w12.heap.size := hs.size
  clear hs G11 S11 Z11 A11 X11 O11
  have dk : decide (x1 + 5 * (p.length : Int) < 0) = false := decide_eq_false (by omega)
  have dk' : ¬ x1 + 5 * (p.length : Int) < 0 := by omega
  go_wp2_with fail
  refine (lF _ _ _ _ _ _ _ _ _ G12.out.1 S12.out).mono ?_
  rw [fH]
  rintro e w13 ⟨rfl, hb⟩
  have s13 : w12.heap.size ≤ w13.heap.size := hb.size
  have Z13 := aA (aC Z12.out hb)
  have A13 := aA ((hb.block _ (by omega)).trans A12.out)
  have S13 := aA (S12.out.below hb)
  have G13 := aA (And.intro (G12.out.1.below hb) (G12.out.2.below hb))
  clear Z12 A12 S12 G12 hb dk dk'
  go_wp2_with fail
  refine (mI _ _ _ _ _ 1 G13.out.2 (by omega) (by omega) (by omega)).mono ?_
  rintro e wo ⟨rfl, hg, hz, hw, hsame⟩
  have NB : Hid (∀ q, q < w5.heap.size → L.length = 0 ∨ ag.map (·.block) ≠ some q) := aA (fun q hq => by
    rcases FG.out with h | h
    · exact .inl h
    · rcases G13.out.2 with h' | ⟨g', off, _, _, rfl, _⟩
      · exact .inl h'
      · refine .inr (fun e => ?_)
        have e1 := h g' off rfl
        have e2 : g' = q := by simpa using e
        omega)
  have Z14 : Hid (Below w.heap.size w wo) := by
    by_cases hl : L.length = 0
    · rw [hsame hl]; exact Z13.out
    · refine xE Z13.out hg (fun k e => ?_)
      rcases FG.out with h | h
      · exact absurd h hl
      · rcases G13.out.2 with h' | ⟨g', off, _, _, rfl, _⟩
        · exact absurd h' hl
        · cases e
          exact Nat.le_trans (show w.heap.size ≤ w5.heap.size by omega) (h g' off rfl)
  have S14 : Hid (Rd wo asp L.length csp (lf L)) := by
    by_cases hl : L.length = 0
    · rw [hsame hl]; exact S13.out
    · refine S13.out.grown hg (.inr fun b off e ee => ?_)
      rcases US.out with h | h
      · exact absurd h hl
      · have e1 : b < wc.heap.size := h b off e
        rcases NB.out b (by omega) with q | q
        · exact absurd q hl
        · exact q ee.symm
  have A14 : Hid (wo.heap[w.heap.size]? = some (.cells #[.int .i64 k, .int .i64 to, .int .i64 a, .int .i64 b, .slice pa p.length cap] 33 (0, 0))) := by
    by_cases hl : L.length = 0
    · rw [hsame hl]; exact A13.out
    · rcases NB.out w.heap.size (by omega) with q | q
      · exact absurd q hl
      · exact (hg.block _ (by omega) (fun e => q e.symm)).trans A13.out
  have Ho : Hid (Rd wo ag L.length cg (mk 1)) := hw.rd G13.out.1.1 (by omega)
  have s14 : wo.heap.size = w13.heap.size := hz
  clear hg hz hw hsame G13 S13 Z13 A13 NB
  have kq : decide ((1 : Int) + 5 * (L.length : Int) < 0) = false := decide_eq_false (by omega)
  go_wp2_with fail
  refine (qC _ _ _ _ 1 Ho.out (by omega) (by omega)).mono ?_
  rintro e w' ⟨rfl, hw'⟩
  obtain rfl := hw'.symm
  clear hw'
  go_wp2_with fail
  have HS0 : Hid (Five w.heap.size k to a b pa p.length cap wo.drew) := aA (dS A14.out).1
  have hd1 : w.heap.size < wo.drew.heap.size := by show w.heap.size < wo.heap.size; omega
  have Zd := aA Z14.out.drew
  have RS1 := aA (RS.out.below Zd.out)
  have RP1 := aA (RP.out.below Zd.out)
  have Sd := aA (S14.out.below (Below.refl _ _).drew)
  have Hd := aA (Ho.out.below (Below.refl _ _).drew)
  clear Z14 A14 S14 Ho s11 s14
  go_region_held3 (fun u => u.cell? ⟨w.heap.size, 0, none⟩ = some (.int .i64 k) ∧ u.cell? ⟨w.heap.size, 1, none⟩ = some (.int .i64 to) ∧ u.cell? ⟨w.heap.size, 2, none⟩ = some (.int .i64 a) ∧ u.cell? ⟨w.heap.size, 3, none⟩ = some (.int .i64 b) ∧ u.cell? ⟨w.heap.size, 4, none⟩ = some (.slice pa p.length cap)) (first | with_reducible exact HSc.out | with_reducible exact HSb.out | with_reducible exact HSa.out | with_reducible exact HS0.out) (first | (go_at_call 16; refine (sB _ _ _ _ _ _ _ _ RS1.out).mono ?_; rintro e wa ⟨Ba, rfl, hb, hr, ho⟩; have La := aA (jQ hr (fun i hi => (ho i hi).2) k0 K0.out); have BBa := aA hb; have hla : w.heap.size < wa.heap.size := Nat.lt_of_lt_of_le hd1 hb.size; have HSa := aA (HS0.out.below hb hd1); clear hb hr ho) | (go_at_call 17; refine (vK k to a b pa p.length cap (lf p) _ (RP1.out.below BBa.out)).mono ?_; rintro e wb ⟨gb, rfl, hb, ho⟩; have Lb := aA (La.out.below hb); have Ob := aA (ho.rd kn); have HSb := aA (HSa.out.below hb hla); have hlb : w.heap.size < wb.heap.size := Nat.lt_of_lt_of_le hla hb.size; have BBb := aA (aC BBa.out hb); clear hb ho) | (go_at_call 18; refine (uT k to a b _ _ _ _ _ _ _ _ _ p _ Lb.out Ob.out (HT.out.below (aC Zd.out BBb.out)) (HD.out.below (aC Zd.out BBb.out))).mono ?_; rw [HLe.out]; rintro e wc2 ⟨ah, ch, rfl, hb, hout⟩; have BBc := aA (aC BBb.out hb); have Ar := aA hout.1; have HSc := aA (HSb.out.below hb hlb); clear hb hout))
  have Z15 := aA (aC Zd.out BBc.out)
  have S15 := aA (Sd.out.below BBc.out)
  have H15 := aA (Hd.out.below BBc.out)
  clear BBc BBa BBb La Lb Ob HSa HSb HSc HS0 RS1 RP1 Zd Sd Hd
  go_wp2_with fail
  refine (lF _ _ _ _ _ _ _ _ _ Ar.out S15.out).mono ?_
  rw [fH]
  rintro e ws ⟨rfl, hb⟩
  have Hs := aA (H15.out.below hb)
  have Zs := aA (aC Z15.out hb)
  clear hb H15 S15 Ar
  go_wp2_with fail
  refine (qC _ _ _ _ 1 Hs.out (by omega) (by omega)).mono ?_
  rintro e w' ⟨rfl, hw'⟩
  obtain rfl := hw'.symm
  clear hw'
  go_wp2
  go_ret
  exact ⟨rfl, Zs.out⟩
theorem own : ownKnob Tryz.prog.godebug = none := by kernel_rfl
theorem laidOut : laidOutB Tryz.prog = true := by kernel_rfl
set_option maxRecDepth 100000 in
theorem lifted (os : Os) (started : os.Started) (H : Type) (enc : TypeId × Value → H) :
    ReturnsInHanded {} Tryz.checked os 4 .any (fun w args => (Rows.fnExactDskDoSpec.pre enc Tryz.prog Tryz.f4 Rows.fnExactDskDoRow.domain false w args ∧ laidMetH Tryz.prog Rows.fnExactDskDoRow.laid w) ∧ sizedMet enc Tryz.prog Tryz.f4 (OpenSpec.ofChange Rows.fnExactDskDoSpec) false w args)
      (Rows.fnExactDskDoSpec.post enc Tryz.prog Tryz.f4 false true false false) := by
  refine returnsInHanded_of_change_and (C := Tryz.checked) (X := fun w _ => laidMetH Tryz.prog Rows.fnExactDskDoRow.laid w) (fun _ _ _ hh h => h.of_heap hh) own started (by kernel_rfl) Tryz.func4
    (ChangeSpec.witness_shaped (enc := enc) (C := Tryz.checked) (os := os) (X := fun w _ => laidMetH Tryz.prog Rows.fnExactDskDoRow.laid w) false (World.laidAll Tryz.prog os Rows.fnExactDskDoRow.laid) #[.slice none 0 0, .agg #[.int .i64 0, .int .i64 0, .int .i64 0, .int .i64 0, .slice none 0 0]] 8 (World.laidAll_os _ _ _)
      (World.shaped_of_ZipB (by kernel_rfl) (by kernel_rfl)) (by kernel_rfl) (by kernel_rfl) (by kernel_rfl)
      (by rw [MakeChecks.laidMetH_plain _ _ _ (by kernel_rfl)]; exact laidMet_laidAll _ (by kernel_rfl) (by kernel_rfl))) ?_
  intro W base args ds gs before hval0 hW hcnd _ hL _
  have hval : ∀ (j : Nat) t v, Tryz.f4.params[j]? = some t → args[j]? = some v → Value.okWide Tryz.prog W .any base t v := hval0
  have hW' := hW
  obtain ⟨p, q, hA0, hV, rfl, hfz, hnd⟩ := hW
  have hA : DataW.TrodAll enc Tryz.prog W 0 (fun _ => true) true Tryz.f4.params.toList args.toList ds p := hA0
  rw [Tryz.params4] at hA hval
  obtain ⟨v0, vs0, d0, ds0, p0, q0, hargs, rfl, rfl, h0, r0⟩ := trodAll_cons hA
  obtain ⟨v1, vs1, d1, ds1, p1, q1, rfl, rfl, rfl, h1, r1⟩ := trodAll_cons r0
  obtain ⟨rfl, rfl, rfl⟩ := trodAll_nil r1
  obtain rfl : args = #[v0, v1] := by cases args; simp_all
  have hV' : DataW.TrodVars enc Tryz.prog W (fun _ => true) ["loop.example/selvedge/impl.dskWords"] gs q := hV
  obtain ⟨g, t, cs, fuel, d, p', rfl, hg, ht, hvar, hd, rfl⟩ := trodVars_one hV'
  obtain rfl := Option.some.inj (iZ.symm.trans hg)
  obtain rfl := Option.some.inj (mO.symm.trans ht)
  have k0 := h0
  have lt0 : ∀ x ∈ p0, x.block < W.heap.size := by obtain ⟨m, hm⟩ := k0; exact DataW.trod_lt m _ _ _ hm
  have k1 := h1
  have lt1 : ∀ x ∈ p1, x.block < W.heap.size := by obtain ⟨m, hm⟩ := k1; exact DataW.trod_lt m _ _ _ hm
  obtain ⟨a0, n0, c0, rfl⟩ := okWide_slice Tryz.underlying30 (hval 0 30 v0 rfl rfl)
  obtain ⟨ad0, ln0, cp0, f0, w0⟩ : ∃ ad ln cp f, kW W a0 n0 c0 ad ln cp f := (by obtain ⟨fuel, hf⟩ := h0; exact uX hf)
  obtain ⟨k, to, a, b, pa, n, cap, f, rfl, hIs⟩ := xS (hval 1 33 v1 rfl rfl) h1
  have hL2 := hL
  rw [MakeChecks.laidMetH_plain _ _ _ (by kernel_rfl)] at hL2
  have hTb : Tb W := qO hL2
  have hVW : W.var? Tryz.prog "loop.example/selvedge/impl.dskWords" = some wordsA := vQ hL2
  have hDw : Dw W := EX hVW
  obtain rfl := Option.some.inj (hvar.symm.trans hVW)
  have h0lt : 0 < W.heap.size := World.block_lt_of_cell? _ _ (hDw 1 (by omega) (by omega))
  have hltv : ∀ x ∈ p', x.block < W.heap.size := fun x hx => hW'.lt x (List.mem_append_right _ (List.mem_append_right _ (by first | exact hx | exact List.mem_append_right _ hx)))
  clear hA0 hval0
  refine (walk a0 n0 c0 ad0 ln0 cp0 f0 k to a b pa n cap f W w0 hIs hTb hDw).mono fun e W' ⟨he, bel⟩ => ?_
  subst he
  obtain ⟨fuel', hd'⟩ := Below.trod laidOut (by kernel_rfl) (of_decide_eq_true (by kernel_rfl)) (v := .agg wordsA) (⟨fuel, hd⟩ : DataW.Trod enc Tryz.prog W 0 (fun _ => true) true 87 (.agg wordsA) d p') bel hltv
  have hv' := trodVars_mk1 (enc := enc) (spare := fun b => decide (b < W.heap.size)) hg ht (var?_below bel hg h0lt hvar) hd'
  exact ⟨_, rfl, _, _, _, [], _, _, hW', trodAll_mk1 (shut_bool Tryz.underlying4 _), (trodAll_cons_mk (Below.trod laidOut (by kernel_rfl) (of_decide_eq_true (by kernel_rfl)) k0 bel lt0) (trodAll_cons_mk (Below.trod laidOut (by kernel_rfl) (of_decide_eq_true (by kernel_rfl)) k1 bel lt1) trodAll_mk0)), hv', bel.frame _, fun h => by cases h⟩
theorem over : Rows.fnExactDskDoRow.holds Tryz.pinned (OpenSpec.ofChange Rows.fnExactDskDoSpec) :=
  OpenClaim.holds_of_wide 4 Tryz.f4 rfl rfl rfl rfl rfl rfl rfl ⟨rfl, rfl, rfl, rfl, rfl⟩ rfl rfl rfl rfl rfl (by kernel_rfl) Tryz.func4 (by kernel_rfl)
    (of_decide_eq_true (by kernel_rfl)) (by unfold Func.isWrapper; first | (rw [if_pos (by decide +kernel)]; kernel_rfl) | (rw [if_neg (by decide +kernel)]; exact ⟨rfl, rfl⟩))
    (fun os started H enc _ => lifted os started H enc)
theorem cardIs : Claim7.holds Tryz.pinned (.plain (OpenSpec.ofChange Rows.fnExactDskDoSpec)) Rows.fnExactDskDoCard :=
  Claim7.holds_tied_plain_at .later [] [.data, .data, .data, .data] true _ true
    over (fun _ h => by cases h) (by kernel_rfl) (fun _ h => by cases h) fnExactDskDo_row_tie rfl ⟨rfl, rfl⟩ (by kernel_rfl) rfl
    (fun f fn hf hfn => by
      obtain rfl : f = 4 := Option.some.inj ((show Tryz.prog.funcNamed Rows.fnExactDskDoRow.func = some 4 by kernel_rfl).symm.trans hf) |>.symm
      obtain rfl : fn = Tryz.f4 := (Option.some.inj (Tryz.func4.symm.trans hfn)).symm
      exact ⟨by kernel_rfl, fun j t ht => by
        rw [Tryz.params4] at ht
        have hall : (Tryz.f4.params.toList.all fun u => !Tryz.prog.wantsStandIn u) = true := by kernel_rfl
        have hm : t ∈ Tryz.f4.params.toList := by rw [Tryz.params4]; simpa using Array.mem_of_getElem? ht
        exact (show Tryz.prog.wantsStandIn t = false by simpa using List.all_eq_true.1 hall t hm)⟩)
    (by kernel_rfl)
end Go.Proofs.YtoglomfejgpoeaaGreatDoor.fnExactDskDo
namespace Go.Proofs.YtoglomfejgpoeaaGreatDoor
theorem fnExactDskDo_holds : Rows.FnExactDskDoCardSaid := fnExactDskDo.cardIs
#print axioms fnExactDskDo_holds
end Go.Proofs.YtoglomfejgpoeaaGreatDoor
