/-
  What is needed, and whether it ends: the program's panic and recover.
  A division on its way in the world: its struct, its maps; what stays true where other memory turns.
  A division's greatest term is left.
-/
import Derived.Test.YtbkighpmkadmmaaGah
import Derived.Shelf.Abstract
import Derived.Defers
import Derived.Recover
import Derived.Test.YtbkighpmkadmmaaGbf
namespace Go.Proofs.Ytbkighpmkadmmaa
open Go.RowKit Go.Deep Go.Joins
set_option linter.unusedVariables false

abbrev tooMuch : Value := .iface 127 (.agg #[])
set_option maxHeartbeats 1000000 in
theorem redNeed_yes (v : Value) (w : World) : Calls Try.prog 64 #[v, .bool true] w fun r w' => r = .returned v ∧ w' = w := by
  go_enter Try.func64, Try.ntmps64
  go_wp2
  go_ret
  exact ⟨rfl, rfl⟩
set_option maxHeartbeats 1000000 in
theorem redNeed_no (v : Value) (w : World) : Calls Try.prog 64 #[v, .bool false] w fun r w' => r = .panicked [{ v := tooMuch, recovered := false }] ∧ w' = w := by
  go_enter Try.func64, Try.ntmps64
  go_wp2
  exact ⟨rfl, rfl, rfl⟩
theorem ta_nil (t : TypeId) (w : World) : (Instr.typeAssert Value.nilIface t 127 true).run Try.prog w = .ok (.tuple #[.agg #[], .bool false]) w := by kernel_rfl
theorem ta_much (t : TypeId) (w : World) : (Instr.typeAssert tooMuch t 127 true).run Try.prog w = .ok (.tuple #[.agg #[], .bool true]) w := by kernel_rfl
theorem ne_nil (w : World) : (binOp BinOp.neq 20 Value.nilIface Value.nilIface).run Try.prog w = .ok (.bool false) w := by kernel_rfl
theorem ne_much (w : World) : (binOp BinOp.neq 20 tooMuch Value.nilIface).run Try.prog w = .ok (.bool true) w := by kernel_rfl
set_option maxRecDepth 100000 in
set_option maxHeartbeats 2000000 in
theorem ends1_idle (w : World) : CallsD Try.prog 93 #[] .returning w fun e u' w' => e = .returned (.tuple #[]) ∧ u' = .returning ∧ w' = w.alloc (.cells #[] 127) := by
  refine callsD_of_wpS Try.func93 rfl fun c₀ cs hu => ?_
  apply wpS_seq
  apply wpS_region
  simp [wpOpsS, go_sem, recoverD, hu, Try.ntmps93, Exit.thenS]
  simp only [Array.replicate]
  refine wpS_of_wp ?_
  have h1 := ta_nil
  have h2 := ta_much
  have h3 := ne_nil
  have h4 := ne_much
  go_wp2
  cases c₀
  simp_all [bodyPostS, results, Try.results93]
set_option maxRecDepth 100000 in
set_option maxHeartbeats 2000000 in
theorem ends1_caught (w : World) : CallsD Try.prog 93 #[] (.panicking [{ v := tooMuch, recovered := false }]) w fun e u' w' => e = .returned (.tuple #[]) ∧ u' = .panicking [{ v := tooMuch, recovered := true }] ∧ w' = w.alloc (.cells #[] 127) := by
  refine callsD_of_wpS Try.func93 rfl fun c₀ cs hu => ?_
  apply wpS_seq
  apply wpS_region
  simp [wpOpsS, go_sem, recoverD, hu, Try.ntmps93, Exit.thenS]
  simp only [Array.replicate]
  refine wpS_of_wp ?_
  have h1 := ta_nil
  have h2 := ta_much
  have h3 := ne_nil
  have h4 := ne_much
  go_wp2
  cases c₀
  simp_all [bodyPostS, results, Try.results93]
set_option maxRecDepth 100000 in
set_option maxHeartbeats 2000000 in
theorem redEnds_yes (g : Nat) (lb : Array Value) (w : World) (Q : World → Prop) (eg : ∀ args w, (callFunc g args).run Try.prog w = .ok (.enter g args) w) (h : Calls Try.prog g lb w fun r w' => r = .returned (.tuple #[]) ∧ Q w') :
    Calls Try.prog 62 #[.func (.func g) #[] lb] w fun r w' => r = .returned (.bool true) ∧ ∃ w1, Q w1 ∧ w' = w1.alloc (.cells #[] 127) := by
  have HC := Hid.mk' h
  clear h
  go_enter_defers Try.func62, Try.ntmps62
  go_wp2_with fail
  refine HC.out.mono ?_
  rintro r w1 ⟨rfl, hq⟩
  have HQ := Hid.mk' hq
  clear hq HC
  go_wp2
  refine leaves_cons (f := 93) (args := #[]) (by simp) (by simp [go_sem]) ?_
  refine (ends1_idle _).mono ?_
  rintro e u' w'' ⟨rfl, rfl, rfl⟩
  simp [Leaves, settle, results, Try.results62, go_sem]
  exact ⟨w1, HQ.out, rfl⟩
set_option maxRecDepth 100000 in
set_option maxHeartbeats 2000000 in
theorem redEnds_no (g : Nat) (lb : Array Value) (w : World) (Q : World → Prop) (eg : ∀ args w, (callFunc g args).run Try.prog w = .ok (.enter g args) w) (h : Calls Try.prog g lb w fun r w' => r = .panicked [{ v := tooMuch, recovered := false }] ∧ Q w') :
    Calls Try.prog 62 #[.func (.func g) #[] lb] w fun r w' => r = .returned (.bool false) ∧ ∃ w1, Q w1 ∧ w' = w1.alloc (.cells #[] 127) := by
  have HC := Hid.mk' h
  clear h
  go_enter_defers Try.func62, Try.ntmps62
  go_wp2_with fail
  refine HC.out.mono ?_
  rintro r w1 ⟨rfl, hq⟩
  have HQ := Hid.mk' hq
  clear hq HC
  go_wp2
  refine leaves_cons (f := 93) (args := #[]) (by simp) (by simp [go_sem]) ?_
  refine (ends1_caught _).mono ?_
  rintro e u' w'' ⟨rfl, rfl, rfl⟩
  simp [Leaves, settle, results, Try.results62, go_sem]
  exact ⟨w1, HQ.out, rfl⟩
end Go.Proofs.Ytbkighpmkadmmaa
namespace Go.Proofs.Ytbkighpmkadmmaa
open Go.RowKit Go.Deep Go.Joins Go.Maps
set_option linter.unusedVariables false

theorem SumR.more {w : World} {b n n' : Nat} {c : M → Int} (h : SumR w b n c) (hn : n ≤ n') : SumR w b n' c := by
  obtain ⟨D, ho, h2⟩ := h
  exact ⟨D, ownsMap_more ho hn, h2⟩
theorem SumR.congr {w : World} {b n : Nat} {c c' : M → Int} (h : SumR w b n c) (he : ∀ m, m.ok = true → c m = c' m) (hb : ∀ m, 0 ≤ c' m ∧ c' m ≤ 100) : SumR w b n c' := by
  obtain ⟨D, ho, h1, h2, h3⟩ := h
  exact ⟨D, ho, hb, fun m hm => by rw [← he m hm]; exact h2 m hm, h3⟩
theorem SumR.below {w w' : World} {b n : Nat} {c : M → Int} (h : SumR w b n c) (hb : Below w.heap.size w w') : SumR w' b n c := h.grown (below_grown hb none) (by simp)
theorem SumR.ne_cell {w : World} {b n : Nat} {c : M → Int} (h : SumR w b n c) {b' o : Nat} {v : Value} (hc : w.cell? ⟨b', o, none⟩ = some v) : b' ≠ b := by
  rintro rfl
  obtain ⟨D, ⟨es, clock, h1, _⟩, _⟩ := h
  unfold World.cell? at hc
  simp [h1] at hc
theorem SumR.ne_rd {w : World} {b n : Nat} {c : M → Int} (h : SumR w b n c) {a : Option Addr} {k cap : Nat} {f : Nat → T} (hr : Rd w a k cap f) : k = 0 ∨ ∀ b' off, a = some ⟨b', off, none⟩ → some b' ≠ some b := by
  by_cases hk : k = 0
  · exact .inl hk
  · refine .inr fun b' off e e' => ?_
    rcases hr.2.2 with h0 | ⟨b1, off1, e1, _, hc⟩
    · exact hk h0
    · have hne := h.ne_cell (hc 0 (by omega)).1
      rw [e] at e1
      have e2 : b' = b1 := by simpa using congrArg (fun x : Option Addr => x.map (·.block)) e1
      have e3 : b' = b := by simpa using e'
      exact hne (e2.symm.trans e3)
theorem Rd.grownMap {w w' : World} {b n : Nat} {c : M → Int} (h : SumR w b n c) {a : Option Addr} {k cap : Nat} {f : Nat → T} (hr : Rd w a k cap f) (hg : w.grownBy w' (some b)) : Rd w' a k cap f := hr.grown hg (h.ne_rd hr)
theorem cell_grownMap {w w' : World} {b n : Nat} {c : M → Int} (h : SumR w b n c) {b' o : Nat} {v : Value} (hc : w.cell? ⟨b', o, none⟩ = some v) (hg : w.grownBy w' (some b)) : w'.cell? ⟨b', o, none⟩ = some v :=
  (World.cell?_of_block (a := ⟨b', o, none⟩) (hg.block b' (World.block_lt_of_cell? w _ hc) (fun e => h.ne_cell hc (by simpa using e)))).trans hc
theorem frozen_grownMap {w w' : World} {b n : Nat} {c : M → Int} (h : SumR w b n c) {b' o : Nat} {v : Value} (hc : w.cell? ⟨b', o, none⟩ = some v) {z : Bool} (hz : w.frozen? ⟨b', o, none⟩ = z) (hg : w.grownBy w' (some b)) : w'.frozen? ⟨b', o, none⟩ = z :=
  (World.frozen?_of_block (a := ⟨b', o, none⟩) (hg.block b' (World.block_lt_of_cell? w _ hc) (fun e => h.ne_cell hc (by simpa using e)))).trans hz
theorem RdS.grownMap {w w' : World} {b N : Nat} {c : M → Int} (h : SumR w b N c) {a : Option Addr} {n cap : Nat} {ad : Nat → Option Addr} {ln cp : Nat → Nat} {f : Nat → Nat → T} (hr : RdS w a n cap ad ln cp f) (hg : w.grownBy w' (some b)) : RdS w' a n cap ad ln cp f := by
  refine ⟨hr.1, hr.2.1, ?_, fun i hi => (hr.2.2.2 i hi).grownMap h hg⟩
  rcases hr.2.2.1 with h0 | ⟨b', off, e, hlt, hc⟩
  · exact .inl h0
  · exact .inr ⟨b', off, e, Nat.lt_of_lt_of_le hlt hg.size, fun i hi => cell_grownMap h (hc i hi) hg⟩
/-- where a division lies. -/
structure DvP where
  s0 : Nat
  Bd : Nat
  rk : Nat
  a : Option Addr
  al : Option Addr
  ta : Option Addr
  n : Nat
  cap : Nat
  cl : Nat
  tc : Nat
  ad : Nat → Option Addr
  ln : Nat → Nat
  cp : Nat → Nat
  f : Nat → Nat → T
  o : Int
  br : Nat
  bl : Nat
  bk : Nat → Nat
structure DvW (X : DvP) (w : World) (fu u N : Nat) (S : Dv) : Prop where
  c0 : w.cell? ⟨X.Bd, 0, none⟩ = some (.func (.func X.rk) #[] #[])
  c1 : w.cell? ⟨X.Bd, 1, none⟩ = some (.slice X.a X.n X.cap)
  c2 : w.cell? ⟨X.Bd, 2, none⟩ = some (.slice X.al X.n X.cl)
  c3 : w.cell? ⟨X.Bd, 3, none⟩ = some (.map (some X.br))
  c4 : w.cell? ⟨X.Bd, 4, none⟩ = some (.slice X.ta X.n X.tc)
  c5 : w.cell? ⟨X.Bd, 5, none⟩ = some (.map (some X.bl))
  c6 : w.cell? ⟨X.Bd, 6, none⟩ = some (.int .i64 (fu : Int))
  fz : w.frozen? ⟨X.Bd, 6, none⟩ = false
  ls : RdS w X.a X.n X.cap X.ad X.ln X.cp X.f
  ld : Rd w X.al X.n X.cl (lf (ldsL X.o X.ln X.f X.n))
  tk : X.n ≤ X.tc ∧ (X.n = 0 ∨ ∃ bt off, X.ta = some ⟨bt, off, none⟩ ∧ ∀ i, i < X.n → w.cell? ⟨bt, off + i, none⟩ = some (.map (some (X.bk i))))
  rs : SumR w X.br N (coef S.p)
  lf : SumR w X.bl u (coef S.r)
  tq : ∀ i, i < X.n → SumR w (X.bk i) u (coef (S.q i))
  ne : X.br ≠ X.bl ∧ ∀ i, i < X.n → X.bk i ≠ X.br ∧ X.bk i ≠ X.bl ∧ ∀ j, j < X.n → i ≠ j → X.bk i ≠ X.bk j
  lo : X.s0 ≤ X.Bd ∧ X.s0 ≤ X.br ∧ X.s0 ≤ X.bl ∧ ∀ i, i < X.n → X.s0 ≤ X.bk i
  sp : X.n = 0 ∨ ((∀ b off, X.a = some ⟨b, off, none⟩ → b ≠ X.Bd) ∧ (∀ i, i < X.n → X.ln i = 0 ∨ ∀ b off, X.ad i = some ⟨b, off, none⟩ → b ≠ X.Bd) ∧ (∀ b off, X.al = some ⟨b, off, none⟩ → b ≠ X.Bd) ∧ (∀ b off, X.ta = some ⟨b, off, none⟩ → b ≠ X.Bd))
theorem DvW.below {X : DvP} {w w' : World} {fu u N : Nat} {S : Dv} (h : DvW X w fu u N S) (hb : Below w.heap.size w w') : DvW X w' fu u N S where
  c0 := (hb.cell (p := ⟨X.Bd, 0, none⟩) (World.block_lt_of_cell? w _ h.c0)).trans h.c0
  c1 := (hb.cell (p := ⟨X.Bd, 1, none⟩) (World.block_lt_of_cell? w _ h.c1)).trans h.c1
  c2 := (hb.cell (p := ⟨X.Bd, 2, none⟩) (World.block_lt_of_cell? w _ h.c2)).trans h.c2
  c3 := (hb.cell (p := ⟨X.Bd, 3, none⟩) (World.block_lt_of_cell? w _ h.c3)).trans h.c3
  c4 := (hb.cell (p := ⟨X.Bd, 4, none⟩) (World.block_lt_of_cell? w _ h.c4)).trans h.c4
  c5 := (hb.cell (p := ⟨X.Bd, 5, none⟩) (World.block_lt_of_cell? w _ h.c5)).trans h.c5
  c6 := (hb.cell (p := ⟨X.Bd, 6, none⟩) (World.block_lt_of_cell? w _ h.c6)).trans h.c6
  fz := (hb.frozen (p := ⟨X.Bd, 6, none⟩) (World.block_lt_of_cell? w _ h.c6)).trans h.fz
  ls := h.ls.below hb
  ld := h.ld.below hb
  tk := ⟨h.tk.1, h.tk.2.imp id (fun ⟨bt, off, e, hc⟩ => ⟨bt, off, e, fun i hi => (hb.cell (p := ⟨bt, off + i, none⟩) (World.block_lt_of_cell? w _ (hc i hi))).trans (hc i hi)⟩)⟩
  rs := h.rs.below hb
  lf := h.lf.below hb
  tq := fun i hi => (h.tq i hi).below hb
  ne := h.ne
  lo := h.lo
  sp := h.sp
/-- one of its maps has turned. -/
theorem DvW.turn {X : DvP} {w w' : World} {fu u N u' N' : Nat} {S S' : Dv} (h : DvW X w fu u N S) {b K : Nat} {c : M → Int} (hm : SumR w b K c) (hg : w.grownBy w' (some b))
    (rs : SumR w' X.br N' (coef S'.p)) (lf : SumR w' X.bl u' (coef S'.r)) (tq : ∀ i, i < X.n → SumR w' (X.bk i) u' (coef (S'.q i))) : DvW X w' fu u' N' S' where
  c0 := cell_grownMap hm h.c0 hg
  c1 := cell_grownMap hm h.c1 hg
  c2 := cell_grownMap hm h.c2 hg
  c3 := cell_grownMap hm h.c3 hg
  c4 := cell_grownMap hm h.c4 hg
  c5 := cell_grownMap hm h.c5 hg
  c6 := cell_grownMap hm h.c6 hg
  fz := frozen_grownMap hm h.c6 h.fz hg
  ls := h.ls.grownMap hm hg
  ld := h.ld.grownMap hm hg
  tk := ⟨h.tk.1, h.tk.2.imp id (fun ⟨bt, off, e, hc⟩ => ⟨bt, off, e, fun i hi => cell_grownMap hm (hc i hi) hg⟩)⟩
  rs := rs
  lf := lf
  tq := tq
  ne := h.ne
  lo := h.lo
  sp := h.sp
/-- the rest has turned. -/
theorem DvW.turnRest {X : DvP} {w w' : World} {fu u N u' N' : Nat} {S : Dv} {p : List T} (h : DvW X w fu u N S) (hu : u ≤ u') (hg : w.grownBy w' (some X.br)) (rs : SumR w' X.br N' (coef p)) : DvW X w' fu u' N' ⟨p, S.q, S.r⟩ :=
  h.turn h.rs hg rs ((h.lf.grown hg (by simpa using h.ne.1.symm)).more hu) (fun i hi => ((h.tq i hi).grown hg (by simpa using (h.ne.2 i hi).1)).more hu)
/-- what is left has turned. -/
theorem DvW.turnLeft {X : DvP} {w w' : World} {fu u N u' : Nat} {S : Dv} {r : List T} (h : DvW X w fu u N S) (hu : u ≤ u') (hg : w.grownBy w' (some X.bl)) (lf : SumR w' X.bl u' (coef r)) : DvW X w' fu u' N ⟨S.p, S.q, r⟩ :=
  h.turn h.lf hg (h.rs.grown hg (by simpa using h.ne.1)) lf (fun i hi => ((h.tq i hi).grown hg (by simpa using (h.ne.2 i hi).2.1)).more hu)
/-- what is taken of one has turned. -/
theorem DvW.turnTaken {X : DvP} {w w' : World} {fu u N u' : Nat} {S : Dv} {q : List T} (h : DvW X w fu u N S) (hu : u ≤ u') {k : Nat} (hk : k < X.n) (hg : w.grownBy w' (some (X.bk k))) (hq : SumR w' (X.bk k) u' (coef q)) : DvW X w' fu u' N ⟨S.p, updQ S.q k q, S.r⟩ := by
  refine h.turn (h.tq k hk) hg (h.rs.grown hg (by simpa using (h.ne.2 k hk).1.symm)) ((h.lf.grown hg (by simpa using (h.ne.2 k hk).2.1.symm)).more hu) (fun i hi => ?_)
  show SumR w' (X.bk i) u' (coef (updQ S.q k q i))
  unfold updQ
  split
  · rename_i e
    rw [e]; exact hq
  · rename_i e
    exact ((h.tq i hi).grown hg (by simpa using (h.ne.2 k hk).2.2 i hi (fun e' => e e'.symm) |>.symm)).more hu
/-- the fuel has turned. -/
theorem DvW.burn {X : DvP} {w : World} {fu u N : Nat} {S : Dv} (h : DvW X w (fu + 1) u N S) : DvW X (w.setCell ⟨X.Bd, 6, none⟩ (.int .i64 (fu : Int))) fu u N S := by
  have hg := grownSet w X.Bd 6 (.int .i64 (fu : Int))
  have hcell : ∀ {b o : Nat} {v : Value}, w.cell? ⟨b, o, none⟩ = some v → (b ≠ X.Bd ∨ o ≠ 6) → (w.setCell ⟨X.Bd, 6, none⟩ (.int .i64 (fu : Int))).cell? ⟨b, o, none⟩ = some v := fun {b o v} hc hne => by
    rw [World.cell?_setCell_other _ _ _ _ (by intro e; cases e; rcases hne with h | h <;> exact h rfl)]
    exact hc
  have hmap : ∀ {b N : Nat} {c : M → Int}, SumR w b N c → SumR (w.setCell ⟨X.Bd, 6, none⟩ (.int .i64 (fu : Int))) b N c := fun {b N c} hs => hs.grown hg (by simpa using (hs.ne_cell h.c0).symm)
  have hrd : ∀ {a : Option Addr} {k cap : Nat} {f : Nat → T}, Rd w a k cap f → (k = 0 ∨ ∀ b off, a = some ⟨b, off, none⟩ → b ≠ X.Bd) → Rd (w.setCell ⟨X.Bd, 6, none⟩ (.int .i64 (fu : Int))) a k cap f := fun {a k cap f} hr hne => hr.grown hg (hne.imp id (fun hn b off e e' => hn b off e (by simpa using e')))
  rcases h.sp with hn0 | hsp
  · exact {
      c0 := hcell h.c0 (.inr (by decide))
      c1 := hcell h.c1 (.inr (by decide))
      c2 := hcell h.c2 (.inr (by decide))
      c3 := hcell h.c3 (.inr (by decide))
      c4 := hcell h.c4 (.inr (by decide))
      c5 := hcell h.c5 (.inr (by decide))
      c6 := by simp [go_sem, h.c6]
      fz := by simp [go_sem, h.fz]
      ls := ⟨h.ls.1, h.ls.2.1, .inl hn0, fun i hi => absurd hi (by omega)⟩
      ld := hrd h.ld (.inl hn0)
      tk := ⟨h.tk.1, .inl hn0⟩
      rs := hmap h.rs
      lf := hmap h.lf
      tq := fun i hi => hmap (h.tq i hi)
      ne := h.ne
      lo := h.lo
      sp := h.sp }
  · exact {
      c0 := hcell h.c0 (.inr (by decide))
      c1 := hcell h.c1 (.inr (by decide))
      c2 := hcell h.c2 (.inr (by decide))
      c3 := hcell h.c3 (.inr (by decide))
      c4 := hcell h.c4 (.inr (by decide))
      c5 := hcell h.c5 (.inr (by decide))
      c6 := by simp [go_sem, h.c6]
      fz := by simp [go_sem, h.fz]
      ls := ⟨h.ls.1, h.ls.2.1, h.ls.2.2.1.imp id (fun ⟨b, off, e, hlt, hc⟩ => ⟨b, off, e, Nat.lt_of_lt_of_le hlt hg.size, fun i hi => hcell (hc i hi) (.inl (hsp.1 b off e))⟩), fun i hi => hrd (h.ls.2.2.2 i hi) (hsp.2.1 i hi)⟩
      ld := hrd h.ld (.inr hsp.2.2.1)
      tk := ⟨h.tk.1, h.tk.2.imp id (fun ⟨bt, off, e, hc⟩ => ⟨bt, off, e, fun i hi => hcell (hc i hi) (.inl (hsp.2.2.2 bt off e))⟩)⟩
      rs := hmap h.rs
      lf := hmap h.lf
      tq := fun i hi => hmap (h.tq i hi)
      ne := h.ne
      lo := h.lo
      sp := h.sp }
/-- nothing has turned but the division's own memory. -/
structure Turn (X : DvP) (w w' : World) : Prop where
  os : w'.os = w.os
  tape : w'.tape = w.tape
  output : w'.output = w.output
  size : w.heap.size ≤ w'.heap.size
  block : ∀ b, b < w.heap.size → b ≠ X.Bd → b ≠ X.br → b ≠ X.bl → (∀ i, i < X.n → b ≠ X.bk i) → w'.heap[b]? = w.heap[b]?
theorem Turn.of {X : DvP} {w w' : World} (h : Below w.heap.size w w') : Turn X w w' := ⟨h.os, h.tape, h.output, h.size, fun b hb _ _ _ _ => h.block b hb⟩
theorem Turn.trans {X : DvP} {w w' w'' : World} (h : Turn X w w') (k : Turn X w' w'') : Turn X w w'' :=
  ⟨k.os.trans h.os, k.tape.trans h.tape, k.output.trans h.output, Nat.le_trans h.size k.size, fun b hb h1 h2 h3 h4 => (k.block b (Nat.lt_of_lt_of_le hb h.size) h1 h2 h3 h4).trans (h.block b hb h1 h2 h3 h4)⟩
theorem Turn.drew {X : DvP} {w w' : World} (h : Turn X w w') : Turn X w w'.drew := h.trans (Turn.of (Below.refl _ _).drew)
theorem Turn.map {X : DvP} {w w' : World} {b : Nat} (hg : w.grownBy w' (some b)) (h : b = X.br ∨ b = X.bl ∨ ∃ i, i < X.n ∧ b = X.bk i) : Turn X w w' :=
  ⟨hg.os, hg.tape, hg.output, hg.size, fun c hc h1 h2 h3 h4 => hg.block c hc (fun e => by
    obtain rfl : c = b := by simpa using e
    rcases h with rfl | rfl | ⟨i, hi, rfl⟩
    · exact h2 rfl
    · exact h3 rfl
    · exact h4 i hi rfl)⟩
theorem Turn.fuel {X : DvP} {w w' : World} (hg : w.grownBy w' (some X.Bd)) : Turn X w w' :=
  ⟨hg.os, hg.tape, hg.output, hg.size, fun c hc h1 _ _ _ => hg.block c hc (fun e => h1 (by simpa using e))⟩
theorem Turn.below {X : DvP} {w w' : World} (h : Turn X w w') {fu u N : Nat} {S : Dv} (hd : DvW X w fu u N S) : Below X.s0 w w' :=
  ⟨h.os, h.tape, h.output, h.size, fun b hb => h.block b (Nat.lt_of_lt_of_le hb (Nat.le_trans hd.lo.1 (Nat.le_of_lt (World.block_lt_of_cell? w _ hd.c0)))) (by have := hd.lo.1; omega) (by have := hd.lo.2.1; omega) (by have := hd.lo.2.2.1; omega) (fun i hi => by have := hd.lo.2.2.2 i hi; omega)⟩
end Go.Proofs.Ytbkighpmkadmmaa
namespace Go.Proofs.Ytbkighpmkadmmaa
open Go.RowKit Go.Deep Go.Joins Go.Maps
set_option linter.unusedVariables false

end Go.Proofs.Ytbkighpmkadmmaa
