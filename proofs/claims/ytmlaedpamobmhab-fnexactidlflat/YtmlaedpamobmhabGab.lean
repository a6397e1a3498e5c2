/-
  A region that draws its order, whose callees make memory of their own but hand back one value whatever the world: one walk in the order of the text, over every world that grew out of the one at hand.
  What the functions of chapter 3's model return: operators as rows of terms in memory.
  The four cells of a monomial.
-/
import Derived.Test.YtmlaedpamobmhabRows
import Derived.WalkKit
import Derived.Deep.QuietTactic
import Derived.BigQuiet
import Derived.Test.YtmlaedpamobmhabGaa
import Derived.WalkSmall
import Derived.ProofKit
import Derived.Deep.OwnRows
namespace Go.Proofs.Ytmlaedpamobmhab
open Go.RowKit

/-- The worlds that grew out of w: below w's own blocks nothing has turned. -/
def Ext (w : World) : Type := Subtype (fun u : World => Below w.heap.size w u)
theorem Ext.there (w : World) : Nonempty (Ext w) := ⟨⟨w, Below.refl _ _⟩⟩
theorem Ext.cell {w : World} (x : Ext w) {b o : Nat} (h : b < w.heap.size) : x.1.cell? ⟨b, o, none⟩ = w.cell? ⟨b, o, none⟩ := x.2.cell (p := ⟨b, o, none⟩) h
theorem wp_region_ext {P : Program} {id : Nat} {Q : Exit → Act → World → Prop} {a : Act} {w : World} {l : List Oper} (hm : P.follows .mixedOrders = true) (hB : Region.lexB .any l.toArray = true)
    (h : wpQuiet P l.toArray (fun u => ∃ x : Ext w, u = x.1) (fun a' => ∀ w', (∃ x : Ext w, w' = x.1) → Q .normal a' w') l a) : (Code.region id l.toArray true).wp P Q a w :=
  wp_region_quiet (C := fun u => ∃ x : Ext w, u = x.1) hm hB ⟨⟨_, (Below.refl _ _).drew⟩, rfl⟩ (by simpa using h)
theorem ext_same {P : Program} {f : FuncId} {args : Array Value} {w : World} {x : Ext w} {v : Value}
    (h : Calls P f args x.1 fun e w' => e = .returned v ∧ w' = x.1) : Calls P f args x.1 fun e w'' => e = .returned v ∧ ∃ y : Ext w, w'' = y.1 :=
  h.mono fun _ _ ⟨he, hm⟩ => ⟨he, x, hm⟩
theorem ext_grows {P : Program} {f : FuncId} {args : Array Value} {w : World} {x : Ext w} {v : Value}
    (h : Calls P f args x.1 fun e w' => e = .returned v ∧ Below x.1.heap.size x.1 w') : Calls P f args x.1 fun e w'' => e = .returned v ∧ ∃ y : Ext w, w'' = y.1 :=
  h.mono fun _ w' ⟨he, hm⟩ => ⟨he, ⟨w', x.2.trans (hm.mono x.2.size)⟩, rfl⟩
end Go.Proofs.Ytmlaedpamobmhab
namespace Go.Proofs.Ytmlaedpamobmhab
open Go.RowKit
set_option linter.unusedVariables false

/-- a term: a number and a monomial. -/
structure T where
  c : Int
  m : M
/-- the i-th term is one that may stand there. -/
def okAt (f : Nat → T) (i : Nat) : Bool := decide (1 ≤ (f i).c ∧ (f i).c ≤ 100) && (f i).m.ok && (decide (i = 0) || decide (0 < M.ord 1 (f (i - 1)).m (f i).m))
def polOk (n : Nat) (f : Nat → T) : Bool := decide (n ≤ 400 ∧ ∀ i, i < n → okAt f i = true)
/-- the five cells of a term. -/
def Cells (w : World) (b o : Nat) (t : T) : Prop :=
  w.cell? ⟨b, o, none⟩ = some (.int .i64 t.c) ∧ w.cell? ⟨b, o + 1, none⟩ = some (.int .i64 t.m.x) ∧ w.cell? ⟨b, o + 2, none⟩ = some (.int .i64 t.m.y) ∧ w.cell? ⟨b, o + 3, none⟩ = some (.int .i64 t.m.d) ∧ w.cell? ⟨b, o + 4, none⟩ = some (.int .i64 t.m.e)
/-- a slice of terms that can be read. -/
def Rd (w : World) (a : Option Addr) (n cap : Nat) (f : Nat → T) : Prop :=
  n ≤ cap ∧ n * 40 ≤ 140737488351232 ∧ (n = 0 ∨ ∃ b off, a = some ⟨b, off, none⟩ ∧ b < w.heap.size ∧ ∀ i, i < n → Cells w b (off + i * 5) (f i))
theorem Cells.below {w w' : World} {b o : Nat} {t : T} {B : Nat} (h : Cells w b o t) (hb : Below B w w') (hB : b < B) : Cells w' b o t := by
  obtain ⟨h0, h1, h2, h3, h4⟩ := h
  exact ⟨(hb.cell (p := ⟨b, o, none⟩) hB).trans h0, (hb.cell (p := ⟨b, o + 1, none⟩) hB).trans h1, (hb.cell (p := ⟨b, o + 2, none⟩) hB).trans h2, (hb.cell (p := ⟨b, o + 3, none⟩) hB).trans h3, (hb.cell (p := ⟨b, o + 4, none⟩) hB).trans h4⟩
theorem Rd.below {w w' : World} {a : Option Addr} {n cap : Nat} {f : Nat → T} (h : Rd w a n cap f) (hb : Below w.heap.size w w') : Rd w' a n cap f := by
  obtain ⟨h1, h2, h3⟩ := h
  refine ⟨h1, h2, ?_⟩
  rcases h3 with h0 | ⟨b, off, rfl, hlt, hc⟩
  · exact .inl h0
  · exact .inr ⟨b, off, rfl, Nat.lt_of_lt_of_le hlt hb.size, fun i hi => (hc i hi).below hb hlt⟩

set_option maxHeartbeats 4000000 in
theorem polOkS (w : World) (a : Option Addr) (n cap : Nat) (f : Nat → T) (h : Rd w a n cap f) :
    Calls Try.prog 26 #[.slice a n cap] w fun r w' => r = .returned (.bool (polOk n f)) ∧ Below w.heap.size w w' := by
  obtain ⟨h1, h2, h3⟩ := h
  have hn : (n : Int) ≤ 140737488351232 := by omega
  by_cases hl : n ≤ 400
  · have hl' : (n : Int) ≤ 400 := by omega
    go_enter Try.func26, Try.ntmps26
    go_wp2
    go_loopw [3] (fun i wr => ∃ k : Nat, k ≤ n ∧ i = .int .i64 k ∧ Below w.heap.size w wr ∧ ∀ j, j < k → okAt f j = true) (fun i _ => n - (intOf i).toNat)
    case atStart => exact ⟨0, Nat.zero_le _, rfl, Below.refl _ _, fun j hj => absurd hj (Nat.not_lt_zero _)⟩
    case round =>
      obtain ⟨k, hk, rfl, hB, hok⟩ := hrel
      by_cases hlt : k < n
      · rcases h3 with h0 | ⟨b, off, rfl, hblt, hcl⟩
        · omega
        have hkn : (k : Int) < (n : Int) := by omega
        have hbr : b < wr.heap.size := Nat.lt_of_lt_of_le hblt hB.size
        have ne := Ext.there wr
        have hck := (hcl k hlt).below hB hblt
        have s0 : ∀ u : Ext wr, u.1.cell? ⟨b, off + k * 5, none⟩ = some (.int .i64 (f k).c) := fun u => (u.cell hbr).trans hck.1
        have s1 : ∀ u : Ext wr, u.1.cell? ⟨b, off + k * 5 + 1, none⟩ = some (.int .i64 (f k).m.x) := fun u => (u.cell hbr).trans hck.2.1
        have s2 : ∀ u : Ext wr, u.1.cell? ⟨b, off + k * 5 + 2, none⟩ = some (.int .i64 (f k).m.y) := fun u => (u.cell hbr).trans hck.2.2.1
        have s3 : ∀ u : Ext wr, u.1.cell? ⟨b, off + k * 5 + 3, none⟩ = some (.int .i64 (f k).m.d) := fun u => (u.cell hbr).trans hck.2.2.2.1
        have s4 : ∀ u : Ext wr, u.1.cell? ⟨b, off + k * 5 + 4, none⟩ = some (.int .i64 (f k).m.e) := fun u => (u.cell hbr).trans hck.2.2.2.2
        clear hck
        have ho : okAt f k = (decide (1 ≤ (f k).c ∧ (f k).c ≤ 100) && (f k).m.ok && (decide (k = 0) || decide (0 < M.ord 1 (f (k - 1)).m (f k).m))) := rfl
        have hno : okAt f k = false → polOk n f = false := fun hf => by
          simp only [polOk, decide_eq_false_iff_not]
          intro hh
          have := hh.2 k hlt
          rw [hf] at this
          cases this
        by_cases hc : 1 ≤ (f k).c ∧ (f k).c ≤ 100
        · obtain ⟨c1, c2⟩ := hc
          cases hm : (f k).m.ok
          · have HF : Hid (polOk n f = false) := hno (by rw [ho, hm]; simp)
            clear hno ho hcl hok
            go_wp2_with fail
            refine wp_region_ext (by kernel_rfl) (by kernel_rfl) ?_
            repeat (go_big_quiet_step (first | (go_at_call 32; exact ext_same (inS_in _ _ _ _ c1 c2)) | (go_at_call 45; exact ext_grows (monOkS_of hm _))))
            refine wpQuiet_nil ?_
            rintro _ ⟨u, rfl⟩
            go_wp2
            go_ret
            exact ⟨by rw [HF.out]; rfl, hB.trans (u.2.mono hB.size)⟩
          · by_cases hk0 : k = 0
            · have ht : okAt f k = true := by rw [ho, hm, decide_eq_true (p := 1 ≤ (f k).c ∧ (f k).c ≤ 100) ⟨c1, c2⟩, decide_eq_true hk0]; rfl
              have hok' : Hid (∀ j, j < k + 1 → okAt f j = true) := fun j hj => by
                by_cases hjk : j = k
                · rw [hjk]; exact ht
                · exact hok j (by omega)
              have dk : decide (0 < k) = false := decide_eq_false (by omega)
              clear hno ho hcl hok ht hk0
              go_wp2_with fail
              refine wp_region_ext (by kernel_rfl) (by kernel_rfl) ?_
              repeat (go_big_quiet_step (first | (go_at_call 32; exact ext_same (inS_in _ _ _ _ c1 c2)) | (go_at_call 45; exact ext_grows (monOkS_of hm _))))
              refine wpQuiet_nil ?_
              rintro _ ⟨u, rfl⟩
              go_wp2
              go_roundw
              case rel => exact ⟨k + 1, by omega, by go_num, hB.trans (u.2.mono hB.size), hok'.out⟩
              case measure => simp [intOf]; omega
            · have hj : k - 1 < n := by omega
              have hcj := (hcl (k - 1) hj).below hB hblt
              have p1 : ∀ u : Ext wr, u.1.cell? ⟨b, off + (k - 1) * 5 + 1, none⟩ = some (.int .i64 (f (k - 1)).m.x) := fun u => (u.cell hbr).trans hcj.2.1
              have p2 : ∀ u : Ext wr, u.1.cell? ⟨b, off + (k - 1) * 5 + 2, none⟩ = some (.int .i64 (f (k - 1)).m.y) := fun u => (u.cell hbr).trans hcj.2.2.1
              have p3 : ∀ u : Ext wr, u.1.cell? ⟨b, off + (k - 1) * 5 + 3, none⟩ = some (.int .i64 (f (k - 1)).m.d) := fun u => (u.cell hbr).trans hcj.2.2.2.1
              have p4 : ∀ u : Ext wr, u.1.cell? ⟨b, off + (k - 1) * 5 + 4, none⟩ = some (.int .i64 (f (k - 1)).m.e) := fun u => (u.cell hbr).trans hcj.2.2.2.2
              clear hcj
              have dk : decide (0 < k) = true := decide_eq_true (by omega)
              have hk1 : (0 : Int) < (k : Int) := by omega
              have hk2 : (k : Int) - 1 < (n : Int) := by omega
              have hk3 : (0 : Int) ≤ (k : Int) - 1 := by omega
              by_cases hq : 0 < M.ord 1 (f (k - 1)).m (f k).m
              · have ht : okAt f k = true := by rw [ho, hm, decide_eq_true (p := 1 ≤ (f k).c ∧ (f k).c ≤ 100) ⟨c1, c2⟩, decide_eq_true hq]; simp
                have hok' : Hid (∀ j, j < k + 1 → okAt f j = true) := fun j hj => by
                  by_cases hjk : j = k
                  · rw [hjk]; exact ht
                  · exact hok j (by omega)
                have dq : decide (M.ord 1 ⟨(f (k - 1)).m.x, (f (k - 1)).m.y, (f (k - 1)).m.d, (f (k - 1)).m.e⟩ ⟨(f k).m.x, (f k).m.y, (f k).m.d, (f k).m.e⟩ ≤ 0) = false := decide_eq_false (Int.not_le.2 hq)
                clear hno ho hcl hok ht hk0 hq
                go_wp2_with fail
                refine wp_region_ext (by kernel_rfl) (by kernel_rfl) ?_
                repeat (go_big_quiet_step (first | (go_at_call 32; exact ext_same (inS_in _ _ _ _ c1 c2)) | (go_at_call 45; exact ext_grows (monOkS_of hm _)) | (go_at_call 44; exact ext_grows (ordS1 _ _ _ _ _ _ _ _ _))))
                refine wpQuiet_nil ?_
                rintro _ ⟨u, rfl⟩
                go_wp2
                go_roundw
                case rel => exact ⟨k + 1, by omega, by go_num, hB.trans (u.2.mono hB.size), hok'.out⟩
                case measure => simp [intOf]; omega
              · have HF : Hid (polOk n f = false) := hno (by rw [ho, hm]; simp [hk0, hq])
                have dq : decide (M.ord 1 ⟨(f (k - 1)).m.x, (f (k - 1)).m.y, (f (k - 1)).m.d, (f (k - 1)).m.e⟩ ⟨(f k).m.x, (f k).m.y, (f k).m.d, (f k).m.e⟩ ≤ 0) = true := decide_eq_true (Int.not_lt.1 hq)
                clear hno ho hcl hok hk0 hq
                go_wp2_with fail
                refine wp_region_ext (by kernel_rfl) (by kernel_rfl) ?_
                repeat (go_big_quiet_step (first | (go_at_call 32; exact ext_same (inS_in _ _ _ _ c1 c2)) | (go_at_call 45; exact ext_grows (monOkS_of hm _)) | (go_at_call 44; exact ext_grows (ordS1 _ _ _ _ _ _ _ _ _))))
                refine wpQuiet_nil ?_
                rintro _ ⟨u, rfl⟩
                go_wp2
                go_ret
                exact ⟨by rw [HF.out]; rfl, hB.trans (u.2.mono hB.size)⟩
        · have HF : Hid (polOk n f = false) := hno (by rw [ho]; simp [hc])
          have hc' : (f k).c < 1 ∨ (1 ≤ (f k).c ∧ 100 < (f k).c) := by omega
          clear hc hno ho hcl hok
          go_wp2_with fail
          refine wp_region_ext (by kernel_rfl) (by kernel_rfl) ?_
          repeat (go_big_quiet_step ((go_at_call 32; exact ext_same (inS_out _ _ _ _ hc'))))
          refine wpQuiet_nil ?_
          rintro _ ⟨u, rfl⟩
          go_wp2
          go_ret
          exact ⟨by rw [HF.out]; rfl, hB.trans (u.2.mono hB.size)⟩
      · go_wp2
        go_ret
        have hp : polOk n f = true := by
          simp only [polOk, decide_eq_true_eq]
          exact ⟨hl, fun i hi => hok i (by omega)⟩
        exact ⟨by rw [hp]; rfl, hB⟩
  · have hl' : (400 : Int) < (n : Int) := by omega
    have hp : polOk n f = false := by
      simp only [polOk, decide_eq_false_iff_not]
      exact fun h => hl h.1
    rw [hp]
    go_enter Try.func26, Try.ntmps26
    go_wp2
    go_ret
    exact ⟨rfl, Below.refl _ _⟩
end Go.Proofs.Ytmlaedpamobmhab
namespace Go.Proofs.Ytmlaedpamobmhab
open Go.RowKit

/-- the four cells of a monomial. -/
def M4 (w : World) (b : Nat) (x y d e : Int) : Prop :=
  w.cell? ⟨b, 0, none⟩ = some (.int .i64 x) ∧ w.cell? ⟨b, 1, none⟩ = some (.int .i64 y) ∧ w.cell? ⟨b, 2, none⟩ = some (.int .i64 d) ∧ w.cell? ⟨b, 3, none⟩ = some (.int .i64 e)
theorem M4.lt {w : World} {b : Nat} {x y d e : Int} (h : M4 w b x y d e) : b < w.heap.size := World.block_lt_of_cell? w _ h.1
theorem M4.below {w w' : World} {b : Nat} {x y d e : Int} (h : M4 w b x y d e) (hb : Below w.heap.size w w') : M4 w' b x y d e :=
  ⟨(hb.cell (p := ⟨b, 0, none⟩) h.lt).trans h.1, (hb.cell (p := ⟨b, 1, none⟩) h.lt).trans h.2.1, (hb.cell (p := ⟨b, 2, none⟩) h.lt).trans h.2.2.1, (hb.cell (p := ⟨b, 3, none⟩) h.lt).trans h.2.2.2⟩
theorem M4.box (w : World) (t : TypeId) (x y d e : Int) : M4 (w.alloc (.cells #[.int .i64 x, .int .i64 y, .int .i64 d, .int .i64 e] t)) w.heap.size x y d e :=
  ⟨by rw [World.cell?_alloc_at _ _ _ _ rfl]; rfl, by rw [World.cell?_alloc_at _ _ _ _ rfl]; rfl, by rw [World.cell?_alloc_at _ _ _ _ rfl]; rfl, by rw [World.cell?_alloc_at _ _ _ _ rfl]; rfl⟩
theorem M4.drew' {w : World} {b : Nat} {x y d e : Int} (h : M4 w b x y d e) : M4 w.drew b x y d e := h.below (Below.refl _ _).drew
theorem s4_drew {w : World} {b : Nat} {x y d e : Int} (h : M4 w b x y d e) : M4 w.drew b x y d e := h.drew'
theorem s4_below {w w' : World} {b : Nat} {x y d e : Int} (hb : Below w.heap.size w w') (h : M4 w b x y d e) : M4 w' b x y d e := h.below hb
theorem M4.grown {w w' : World} {b : Nat} {x y d e : Int} {row : Option Nat} (h : M4 w b x y d e) (hg : w.grownBy w' row) (hne : some b ≠ row) : M4 w' b x y d e := by
  have he := hg.block b h.lt hne
  exact ⟨(World.cell?_of_block (w := w) (a := ⟨b, 0, none⟩) he).trans h.1, (World.cell?_of_block (w := w) (a := ⟨b, 1, none⟩) he).trans h.2.1, (World.cell?_of_block (w := w) (a := ⟨b, 2, none⟩) he).trans h.2.2.1, (World.cell?_of_block (w := w) (a := ⟨b, 3, none⟩) he).trans h.2.2.2⟩
theorem M4.alloc {w : World} {b : Nat} {x y d e : Int} (h : M4 w b x y d e) (o : Obj) : M4 (w.alloc o) b x y d e := h.below ((Below.refl _ _).alloc (Nat.le_refl _) _)
end Go.Proofs.Ytmlaedpamobmhab
