/-
  Going down from the right among those that rise is being put in from the left.
  The program's least basis: what is left of one; rows put together (slices.Grow, slices.Concat).
  The program's least basis: two cuts of a row put together (slices.Concat).
-/
import Derived.Test.YtdidlcjhodejjaaGreatSca
import Derived.Lib.AppendZeros
namespace Go.Proofs.YtdidlcjhodejjaaGreat
open Go.RowKit Go.Deep Go.Joins
set_option linter.unusedVariables false

def preE (F : Nat → E) (n : Nat) : List E := (List.range n).map F
theorem preE_len (F : Nat → E) (n : Nat) : (preE F n).length = n := by simp [preE]
theorem preE_snoc (F : Nat → E) (n : Nat) : preE F (n + 1) = preE F n ++ [F n] := by simp [preE, List.range_succ]
theorem preE_congr {F G : Nat → E} {n : Nat} (h : ∀ i, i < n → F i = G i) : preE F n = preE G n := List.map_congr_left fun i hi => h i (by simpa using hi)
theorem preE_at (F : Nat → E) {n i : Nat} (h : i < n) : (preE F n).getD i E0 = F i := by
  rw [List.getD_eq_getElem?_getD]
  simp [preE, h]
def Rise (o : Int) (l : List E) : Prop := l.Pairwise (fun a b => ltE o b a = false)
theorem ltE_iff {o : Int} {a b : E} : ltE o a b = true ↔ rkW o (ldL o a.p).m < rkW o (ldL o b.p).m := by unfold ltE ltO; exact decide_eq_true_iff
theorem ltE_not {o : Int} {a b : E} : ltE o a b = false ↔ rkW o (ldL o b.p).m ≤ rkW o (ldL o a.p).m := by
  unfold ltE ltO
  rw [decide_eq_false_iff_not]
  omega
theorem insN_rise {o : Int} {x : E} : ∀ {l : List E}, Rise o l → Rise o (insN (ltE o) x l)
  | [], _ => List.pairwise_singleton _ _
  | y :: r, h => by
    obtain ⟨h1, h2⟩ := List.pairwise_cons.1 h
    show Rise o (if ltE o x y = true then x :: y :: r else y :: insN (ltE o) x r)
    by_cases e : ltE o x y = true
    · rw [if_pos e]
      refine List.pairwise_cons.2 ⟨fun z hz => ?_, h⟩
      have e' := ltE_iff.1 e
      rcases List.mem_cons.1 hz with rfl | hz
      · exact ltE_not.2 (by omega)
      · have := ltE_not.1 (h1 z hz)
        exact ltE_not.2 (by omega)
    · rw [if_neg e]
      refine List.pairwise_cons.2 ⟨fun z hz => ?_, insN_rise h2⟩
      rcases insN_mem.1 hz with rfl | hz
      · cases q : ltE o z y
        · rfl
        · exact absurd q e
      · exact h1 z hz
theorem dwn_keep {o : Int} : ∀ {j : Nat} {F : Nat → E} {t : Nat}, j < t → dwnE (ltE o) j F t = F t
  | 0, F, t, h => rfl
  | j + 1, F, t, h => by
    cases e : ltE o (F (j + 1)) (F j)
    · rw [dwn_no e]
    · rw [dwn_go e, dwn_keep (by omega)]
      unfold swpE
      rw [if_neg (by omega), if_neg (by omega)]
theorem dwn_ins {o : Int} : ∀ {j : Nat} {F : Nat → E}, Rise o (preE F j) → preE (dwnE (ltE o) j F) (j + 1) = insN (ltE o) (F j) (preE F j)
  | 0, F, h => rfl
  | j + 1, F, h => by
    have hs := preE_snoc F j
    rw [hs] at h ⊢
    obtain ⟨h1, _, h3⟩ := List.pairwise_append.1 h
    have key : ∀ z ∈ preE F j, ltE o (F (j + 1)) z = true → ltE o (F (j + 1)) (F j) = true := fun z hz q => by
      have q1 := ltE_iff.1 q
      have q2 := ltE_not.1 (h3 z hz (F j) (List.mem_singleton.2 rfl))
      exact ltE_iff.2 (by omega)
    rw [insN_snoc key]
    cases e : ltE o (F (j + 1)) (F j)
    · rw [dwn_no e, preE_snoc, preE_snoc]
      simp
    · rw [dwn_go e, preE_snoc, dwn_ins (F := swpE F j) (by rw [preE_congr (G := F) (fun i hi => by unfold swpE; rw [if_neg (by omega), if_neg (by omega)])]; exact h1), dwn_keep (by omega)]
      rw [if_pos rfl, preE_congr (F := swpE F j) (G := F) (fun i hi => by unfold swpE; rw [if_neg (by omega), if_neg (by omega)])]
      have e1 : swpE F j j = F (j + 1) := by unfold swpE; rw [if_pos rfl]
      have e2 : swpE F j (j + 1) = F j := by unfold swpE; rw [if_neg (by omega), if_pos rfl]
      rw [e1, e2]
theorem snd_srt {o : Int} : ∀ {u i : Nat} {F : Nat → E}, Rise o (preE F i) → preE (sndE (ltE o) u i F) (i + u) = srtN (ltE o) (preE F i) ((List.range u).map (fun t => F (i + t)))
  | 0, i, F, h => rfl
  | u + 1, i, F, h => by
    have h1 := dwn_ins h
    have h2 : Rise o (preE (dwnE (ltE o) i F) (i + 1)) := by rw [h1]; exact insN_rise h
    have ih := snd_srt (u := u) (i := i + 1) (F := dwnE (ltE o) i F) h2
    show preE (sndE (ltE o) u (i + 1) (dwnE (ltE o) i F)) (i + (u + 1)) = _
    rw [show i + (u + 1) = i + 1 + u by omega, ih, h1, List.range_succ_eq_map, List.map_cons, List.map_map]
    show _ = srtN (ltE o) (insN (ltE o) (F i) (preE F i)) _
    congr 1
    refine List.map_congr_left fun t _ => ?_
    show dwnE (ltE o) i F (i + 1 + t) = F (i + (t + 1))
    rw [dwn_keep (by omega), show i + 1 + t = i + (t + 1) by omega]
/-- the row behind the sort. -/
theorem snd_all (o : Int) (n : Nat) (F : Nat → E) : preE (sndE (ltE o) (n - 1) 1 F) n = srtN (ltE o) [] (preE F n) := by
  cases n with
  | zero => rfl
  | succ n =>
    have h := snd_srt (o := o) (u := n) (i := 1) (F := F) (by rw [show preE F 1 = [F 0] from rfl]; exact List.pairwise_singleton _ _)
    rw [show n + 1 - 1 = n from rfl, show n + 1 = 1 + n by omega, h]
    show srtN (ltE o) [F 0] _ = srtN (ltE o) [] (preE F (1 + n))
    unfold preE
    rw [show 1 + n = n + 1 by omega, List.range_succ_eq_map, List.map_cons, List.map_map]
    show _ = srtN (ltE o) [F 0] _
    congr 1
    refine List.map_congr_left fun t _ => ?_
    show F (1 + t) = F (t + 1)
    rw [Nat.add_comm]
end Go.Proofs.YtdidlcjhodejjaaGreat
namespace Go.Proofs.YtdidlcjhodejjaaGreat
open Go.RowKit Go.Deep Go.Joins
set_option linter.unusedVariables false

def lftR (o : Int) : Option Dv → Option (List T)
  | some S => if S.r.length = 0 then none else some (monL o S.r)
  | none => none
theorem lftL_R (o : Int) (p : List T) (oth : List (List T)) : lftL o p oth = lftR o (redAll o p oth.length (lN (Lof oth)) (fN (Lof oth))) := by
  unfold lftL lftR
  cases redAll o p oth.length (lN (Lof oth)) (fN (Lof oth)) <;> rfl
set_option maxRecDepth 100000 in
set_option maxHeartbeats 4000000 in
theorem idlLeftI (w : World) (o : Int) (pa : Option Addr) (pc : Nat) (p : List T) (a : Option Addr) (n cap : Nat) (ad : Nat → Option Addr) (cp : Nat → Nat) (L : Nat → List T) (ho : 1 ≤ o ∧ o ≤ 3) (hp : RL w pa pc p) (h : RdS w a n cap ad (lN L) cp (fN L)) {R : Option Dv} (hR : redAll o p n (lN L) (fN L) = R) :
    Calls Tryz.prog 50 #[.int .i64 o, .slice pa p.length pc, .slice a n cap] w fun r w' => Below w.heap.size w w' ∧ ((∃ Y a' c', lftR o R = some Y ∧ r = .returned (.tuple #[.slice a' Y.length c', .bool true]) ∧ Out w.heap.size w' a' c' Y) ∨ (lftR o R = none ∧ r = .returned (.tuple #[.slice none 0 0, .bool false]))) := by
  have HC := Hid.mk' (redAllI' w o pa pc p a n cap ad (lN L) cp (fN L) hp h hR)
  have HL0 : Hid (∀ (W : World) (la : Option Addr) (lc : Nat), RL W la lc [] → Calls Tryz.prog 23 #[.int .i64 o, .slice la 0 lc] W fun r w' => r = .returned (.tuple #[.agg #[.int .i64 0, .int .i64 0, .int .i64 0, .int .i64 0, .int .i64 0], .bool false]) ∧ Below W.heap.size W w') := fun W la lc hW => by
    have e1 : leadOk o 0 (lf []) = false := by simp [leadOk]
    have := polLeadI W o la 0 lc (lf []) hW
    rw [leadT_no e1, e1] at this
    exact this
  have hok : ∀ S, R = some S → okL S.r = true := fun S e => (redAll_rest (hR.trans e)).1
  have HOK := Hid.mk' hok
  have hbd := (res_bd (o := o) (p := p) (n := n) (ln := lN L) (f := fN L)).2.2
  rw [hR] at hbd
  clear hp h hR hok
  have hnone : ∀ r : List T, resL R = r → r.length = 0 → lftR o R = none → Calls Tryz.prog 50 #[.int .i64 o, .slice pa p.length pc, .slice a n cap] w fun r w' => Below w.heap.size w w' ∧ ((∃ Y a' c', lftR o R = some Y ∧ r = .returned (.tuple #[.slice a' Y.length c', .bool true]) ∧ Out w.heap.size w' a' c' Y) ∨ (lftR o R = none ∧ r = .returned (.tuple #[.slice none 0 0, .bool false]))) := fun r er h0 hn => by
    have e0 : resL R = [] := by rw [er]; exact List.length_eq_zero_iff.1 h0
    have HN := Hid.mk' hn
    have HE := Hid.mk' e0
    clear er h0 hn e0
    go_enter Tryz.func50, Tryz.ntmps50
    go_wp2_with fail
    refine HC.out.mono ?_
    rintro r w1 ⟨qa, qc, ad', cp', Rb, B, la, lc, mid, rfl, hb, _, hO, _⟩
    have HB := Hid.mk' hb
    have hO1 := hO.1
    rw [HE.out] at hO1 ⊢
    have HO := Hid.mk' hO1
    clear hb hO hO1 HC
    simp only [List.length_nil]
    go_wp2_with fail
    refine (HL0.out w1 la lc HO.out).mono ?_
    rintro r w2 ⟨rfl, hb2⟩
    have HB2 := Hid.mk' (bel_next (bel_next HB.out hb2) (bel_one w2 (.cells #[.int .i64 0, .int .i64 0, .int .i64 0, .int .i64 0, .int .i64 0] 42)))
    clear hb2
    go_wp2
    refine bodyPost_ret (results_tmp2 rfl _ _ _) rfl ?_
    exact ⟨HB2.out, .inr ⟨HN.out, rfl⟩⟩
  cases R with
  | none => exact hnone [] rfl rfl rfl
  | some S =>
    by_cases h0 : S.r.length = 0
    · exact hnone S.r rfl h0 (if_pos h0)
    · have hY : lftR o (some S) = some (monL o S.r) := if_neg h0
      have hS := HOK.out S rfl
      have e1 : leadOk o S.r.length (lf S.r) = true := ldB_iff.2 ⟨ho, hS, fun e => h0 (by rw [e]; rfl)⟩
      have t1 : leadT o S.r.length (lf S.r) = ldL o S.r := leadT_yes e1
      have hm : monL o S.r = polScale (fInv (ldL o S.r).c) (lf S.r) S.r.length := rfl
      obtain ⟨Y, hYe⟩ : ∃ Y, monL o S.r = Y := ⟨_, rfl⟩
      obtain ⟨t, ht⟩ : ∃ t, ldL o S.r = t := ⟨_, rfl⟩
      have hYl : Y.length ≤ 400 := by rw [← hYe, hm]; exact polScale_len _ _ _
      rw [ht] at t1 hm
      rw [hYe] at hY hm
      obtain ⟨k, hk⟩ : ∃ k, fInv t.c = k := ⟨_, rfl⟩
      rw [hk] at hm
      have HLD : Hid (∀ (W : World) (la : Option Addr) (lc : Nat), RL W la lc S.r → Calls Tryz.prog 23 #[.int .i64 o, .slice la S.r.length lc] W fun r w' => r = .returned (.tuple #[.agg #[.int .i64 t.c, .int .i64 t.m.x, .int .i64 t.m.y, .int .i64 t.m.d, .int .i64 t.m.e], .bool true]) ∧ Below W.heap.size W w') := fun W la lc hW => by
        have := polLeadI W o la S.r.length lc (lf S.r) hW
        rw [t1, e1] at this
        exact this
      have HSC : Hid (∀ (W : World) (la : Option Addr) (lc : Nat), RL W la lc S.r → Calls Tryz.prog 30 #[.int .i64 k, .slice la S.r.length lc] W fun r w' => ∃ a' c', r = .returned (.slice a' Y.length c') ∧ Below W.heap.size W w' ∧ Out W.heap.size w' a' c' Y) := fun W la lc hW => by
        refine (polScaleI W k la S.r.length lc (lf S.r) hW).mono ?_
        rintro r w' ⟨v, rfl, hb, hown⟩
        rw [← hm] at hown
        obtain ⟨a', c', rfl, hO⟩ := out_of_owns hown (by omega)
        exact ⟨a', c', rfl, hb, hO⟩
      have hinv := invI t.c
      rw [hk] at hinv
      have HIV := Hid.mk' hinv
      have HYY := Hid.mk' hY
      clear hS e1 t1 hm hYe ht hk hinv hnone hY hbd
      go_enter Tryz.func50, Tryz.ntmps50
      go_wp2_with fail
      refine HC.out.mono ?_
      rintro r w1 ⟨qa, qc, ad', cp', Rb, B, la, lc, mid, rfl, hb, _, hO, _⟩
      have HB := Hid.mk' hb
      have HO : Hid (RL w1 la lc S.r) := hO.1
      clear hb hO HC
      simp only [resL]
      go_wp2_with fail
      refine (HLD.out w1 la lc HO.out).mono ?_
      rintro r w2 ⟨rfl, hb2⟩
      have bx := bel_one w2 (.cells #[.int .i64 t.c, .int .i64 t.m.x, .int .i64 t.m.y, .int .i64 t.m.d, .int .i64 t.m.e] 42)
      have HB2 := Hid.mk' (bel_next (bel_next HB.out hb2) bx)
      have HO2 := Hid.mk' (Rd.below (Rd.below HO.out hb2) bx)
      obtain ⟨y0, y1, y2, y3, y4⟩ := C5.box w2 42 t
      have hsz : w.heap.size ≤ w2.heap.size := by have := HB2.out.size; have := HB.out.size; have := hb2.size; omega
      clear hb2 bx HO HB
      go_wp2_with fail
      refine (HIV.out _).mono ?_
      rintro r w3 ⟨rfl, hw3⟩
      obtain rfl := hw3.symm
      clear hw3
      go_wp2_with fail
      generalize (w2.alloc (.cells #[.int .i64 t.c, .int .i64 t.m.x, .int .i64 t.m.y, .int .i64 t.m.d, .int .i64 t.m.e] 42)) = w3 at HB2 HO2 ⊢
      refine (HSC.out w3 la lc HO2.out).mono ?_
      rintro r w4 ⟨a', c', rfl, hb4, hO4⟩
      have HB4 := Hid.mk' (bel_next HB2.out hb4)
      have HO4 : Hid (Out w.heap.size w4 a' c' Y) := ⟨hO4.1, hO4.2.1, hO4.2.2.imp id (fun ⟨g, off, e, hg⟩ => ⟨g, off, e, by have := HB2.out.size; omega⟩)⟩
      clear hb4 hO4 y0 y1 y2 y3 y4
      go_wp2
      refine bodyPost_ret (results_tmp2 rfl _ _ _) rfl ?_
      exact ⟨HB4.out, .inl ⟨Y, a', c', HYY.out, rfl, HO4.out⟩⟩
theorem info_glP : ∃ i : TypeInfo, Tryz.prog.info? 45 = some i ∧ i.zero = some (.slice none 0 0) ∧ i.size = 1 ∧ i.bytes = 24 := info_parts infoGl
set_option maxRecDepth 100000 in
set_option maxHeartbeats 4000000 in
/-- room for so many. -/
theorem growI (w : World) (k : Nat) (hk : k ≤ 100) :
    Calls Tryz.prog 93 #[.slice none 0 0, .int .i64 (k : Int)] w fun r w' => ∃ tv, r = .returned tv ∧ Below w.heap.size w w' ∧ w'.ownsRow w.heap.size 45 1 tv 0 [] := by
  obtain ⟨i0, hi0, hz0, hz1, hz2⟩ := info_glP
  have hkI : (k : Int) ≤ 100 := by omega
  have hk0 : ¬ (k : Int) < 0 := by omega
  by_cases h0 : k = 0
  · subst h0
    go_enter Tryz.func93, Tryz.ntmps93
    go_wp2
    go_ret
    exact ⟨_, rfl, Below.refl _ _, ⟨rfl, .inl ⟨rfl, rfl⟩⟩⟩
  · have hpos : (0 : Int) < (k : Int) := by omega
    have hrun := fun ty => Lib.run_append_nil_zeros (P := Tryz.prog) w 24 3 ty 45 i0 _ .i64 .i64 Tryz.underlying24 Tryz.underlying3 hi0 hz0 k (by omega) (by omega) (by omega) (by rw [hz2]; omega)
    have hge := grownCap_ge w k 0 45
    have hle := grownCap_le_maxLen w k 0 45 (by unfold maxLen; omega)
    obtain ⟨C, hC⟩ : ∃ C, grownCap w k 0 45 = C := ⟨_, rfl⟩
    rw [hC] at hge hle
    simp only [hC] at hrun
    obtain ⟨cur, hcur⟩ : ∃ cur, Builtin.zeroCells (Value.slice none 0 0).cells k ++ Builtin.zeroCells (Value.slice none 0 0).cells (C - k) = cur := ⟨_, rfl⟩
    have hsz : cur.size = C * 1 := by
      rw [← hcur]
      simp [Builtin.zeroCells, Value.cells]
      omega
    simp only [hcur] at hrun
    have HOW := Hid.mk' (World.ownsRow_made (base := w.heap.size) (e := 45) (size := 1) w.drew cur C (Nat.le_refl _) hle hsz)
    have HBL := Hid.mk' ((Below.refl w.heap.size w).drew.alloc (Nat.le_refl _) (.cells cur 45))
    clear hC hcur hsz hz0 hz1 hz2 hi0 hge
    go_enter Tryz.func93, Tryz.ntmps93
    go_wp2_with (at_builtin; refine Lib.wpList_append_run _ rfl _ _ _ _ rfl _ _ rfl rfl _ _ (hrun _) ?_; clear hrun)
    go_ret
    exact ⟨_, rfl, HBL.out, HOW.out⟩
end Go.Proofs.YtdidlcjhodejjaaGreat
namespace Go.Proofs.YtdidlcjhodejjaaGreat
open Go.RowKit Go.Deep Go.Joins
set_option linter.unusedVariables false

theorem RdE.news {w : World} {b off c : Nat} {es : List E} (h : RdE w (some ⟨b, off, none⟩) c es) : ∀ j u, (es.map E.v)[j]? = some u → w.cell? ((⟨b, off, none⟩ : Addr).add j) = some u := by
  have := h.newsTo es.length
  rwa [List.take_length] at this
theorem RdE.takeE {w : World} {a : Option Addr} {c : Nat} {es : List E} (h : RdE w a c es) {k : Nat} (hk : k ≤ es.length) : RdE w a c (es.take k) := by
  have hl : (es.take k).length = k := by rw [List.length_take]; omega
  refine ⟨by rw [hl]; have := h.1; omega, by rw [hl]; have := h.2.1; omega, ?_, fun e he => h.2.2.2 e (List.mem_of_mem_take he)⟩
  rcases h.2.2.1 with h0 | ⟨b, off, e1, hlt, hc⟩
  · exact .inl (by omega)
  · refine .inr ⟨b, off, e1, hlt, fun i e he => hc i e ?_⟩
    have hi := (List.getElem?_eq_some_iff.1 he).1
    rw [List.getElem?_take_of_lt (by omega)] at he
    exact he
theorem RdE.dropE {w : World} {b off c : Nat} {es : List E} (h : RdE w (some ⟨b, off, none⟩) c es) {k : Nat} (hk : k ≤ es.length) : RdE w (some ⟨b, off + k, none⟩) (c - k) (es.drop k) := by
  have hl : (es.drop k).length = es.length - k := List.length_drop ..
  refine ⟨by rw [hl]; have := h.1; omega, by rw [hl]; have := h.2.1; omega, ?_, fun e he => h.2.2.2 e (List.mem_of_mem_drop he)⟩
  rcases h.2.2.1 with h0 | ⟨b', off', e1, hlt, hc⟩
  · exact .inl (by omega)
  · cases e1
    refine .inr ⟨b, off + k, rfl, hlt, fun i e he => ?_⟩
    rw [List.getElem?_drop] at he
    have := hc (k + i) e he
    rw [← Nat.add_assoc] at this
    exact this
theorem ElE.far {w wr : World} {tv : Value} {e : E} (h : RL w e.a e.c e.p) (hb : Below w.heap.size w wr) (hk : ∀ k, tv.ownBlock = some k → w.heap.size ≤ k) : ElE wr tv.ownBlock e := by
  refine ⟨Rd.below h hb, ?_⟩
  rcases h.2.2 with h0 | ⟨b, off, e1, hlt, _⟩
  · exact .inl h0
  · refine .inr fun b' off' e2 e3 => ?_
    rw [e1] at e2; cases e2
    have := hk b e3
    omega
theorem run_app0g {P : Program} {w : World} (base : Nat) (t ty e : TypeId) (i : TypeInfo) (size : Nat) (ht : P.underlying t = some (.slice e)) (hi : P.info? e = some i)
    (v : Value) (n : Nat) (xs : List Value) (hown : w.ownsRow base e size v n xs) (pa : Option Addr) (pc : Nat) :
    (Builtin.append_ #[t, t] ty #[v, .slice pa 0 pc]).run P w = .ok v w := by
  rcases hown.2 with ⟨rfl, rfl⟩ | ⟨g, cap, cur, rfl, _, _, hnc, _⟩
  · cases pa <;> simp [Builtin.append_, run_underlying ht, sizeOf, typeInfo, hi, Builtin.lenOf, Builtin.firstCells, loadCells, loadCellsFrom]
  · cases pa <;> simp [Builtin.append_, run_underlying ht, sizeOf, typeInfo, hi, Builtin.lenOf, Builtin.firstCells, hnc, storeCells, loadCells, loadCellsFrom]
theorem wpList_app0g {P : Program} {w : World} {ops : Array Oper} {rest : List Oper} {o : Oper} {a : Act} {Q : Exit → Act → World → Prop} (hgd : o.guard = none) (s x : Operand) (t : TypeId)
    (ho : o.op = .call { callee := .builtin .append, args := #[s, x], argTypes := #[t, t] })
    (base : Nat) (e : TypeId) (i : TypeInfo) (size : Nat) (ht : P.underlying t = some (.slice e)) (hi : P.info? e = some i)
    (v : Value) (n : Nat) (xs : List Value) (hs : a.eval s = v) (hown : w.ownsRow base e size v n xs) (pa : Option Addr) (pc : Nat) (hx : a.eval x = .slice pa 0 pc)
    (h : wpList P ops Q rest (a.put o.dst v) w) : wpList P ops Q (o :: rest) a w := by
  refine wpList_plain hgd fun K hK => ?_
  have hrun := run_app0g (P := P) (w := w) base t o.type e i size ht hi v n xs hown pa pc
  unfold Oper.wp
  simp [execOp, ho, resolve, invoke, builtin, hs, hx, hrun, Result.andThen]
  exact hK _ _ h
set_option maxRecDepth 100000 in
set_option maxHeartbeats 4000000 in
theorem concatI (w : World) (v0 : Nat) (a1 : Option Addr) (c1 : Nat) (es1 : List E) (a2 : Option Addr) (c2 : Nat) (es2 : List E) (k1 : w.cell? ⟨v0, 0, none⟩ = some (.slice a1 es1.length c1)) (k2 : w.cell? ⟨v0, 1, none⟩ = some (.slice a2 es2.length c2)) (h1 : RdE w a1 c1 es1) (h2 : RdE w a2 c2 es2) (hn : es1.length + es2.length ≤ 12) :
    Calls Tryz.prog 49 #[.slice (some ⟨v0, 0, none⟩) 2 2] w fun r w' => ∃ tv, r = .returned tv ∧ Below w.heap.size w w' ∧ RowE w.heap.size w' tv (es1 ++ es2) := by
  obtain ⟨i0, hi0, hz0, hz1, hz2⟩ := info_glP
  have hv0 : v0 < w.heap.size := World.block_lt_of_cell? w _ k1
  obtain ⟨n1, hn1⟩ : ∃ n1, es1.length = n1 := ⟨_, rfl⟩
  obtain ⟨n2, hn2⟩ : ∃ n2, es2.length = n2 := ⟨_, rfl⟩
  rw [hn1] at k1 hn
  rw [hn2] at k2 hn
  have hI1 : (n1 : Int) ≤ 12 := by omega
  have hI2 : (n2 : Int) ≤ 12 := by omega
  have HN1 := Hid.mk' hn1
  have HN2 := Hid.mk' hn2
  have H1 := Hid.mk' h1
  have H2 := Hid.mk' h2
  have HK1 := Hid.mk' k1
  have HK2 := Hid.mk' k2
  clear h1 h2 hn1 hn2
  go_enter Tryz.func49, Tryz.ntmps49
  go_wp2
  go_loopw [3, 11] (fun sv jv wr => wr = w ∧ ((jv = .int .i64 0 ∧ sv = .int .i64 0) ∨ (jv = .int .i64 1 ∧ sv = .int .i64 (n1 : Int)) ∨ (jv = .int .i64 2 ∧ sv = .int .i64 ((n1 + n2 : Nat) : Int)))) (fun _ jv _ => 2 - (intOf jv).toNat)
  case atStart => exact ⟨rfl, .inl ⟨rfl, rfl⟩⟩
  case round =>
    obtain ⟨rfl, hh⟩ := hrel
    rcases hh with ⟨rfl, rfl⟩ | ⟨rfl, rfl⟩ | ⟨rfl, rfl⟩
    · go_wp2
      go_roundw
      case rel => exact ⟨by first | trivial | rfl, .inr (.inl ⟨by first | rfl | go_num, by first | rfl | go_num⟩)⟩
      case measure => first | (simp [intOf]; done) | (simp [intOf]; omega)
    · go_wp2
      go_roundw
      case rel => exact ⟨by first | trivial | rfl, .inr (.inr ⟨by first | rfl | go_num, by first | rfl | go_num | (congr 1; omega)⟩)⟩
      case measure => first | (simp [intOf]; done) | (simp [intOf]; omega)
    · obtain ⟨N, hN⟩ : ∃ N, n1 + n2 = N := ⟨_, rfl⟩
      rw [hN]
      have hN12 : N ≤ 100 := by omega
      clear hN k1 k2
      obtain ⟨wq, hwq⟩ : ∃ x, x = wr := ⟨_, rfl⟩
      subst hwq
      go_wp2_with fail
      refine (growI wq N hN12).mono ?_
      rintro r w2 ⟨tv0, rfl, hb2, hown2⟩
      have HB2 := Hid.mk' hb2
      have HR2 : Hid (RowE wq.heap.size w2 tv0 []) := ⟨hown2, fun e he => by cases he⟩
      clear hb2 hown2
      go_wp2
      go_loopw [6, 27] (fun tv jv w' => Below wq.heap.size wq w' ∧ ((jv = .int .i64 0 ∧ RowE wq.heap.size w' tv []) ∨ (jv = .int .i64 1 ∧ RowE wq.heap.size w' tv es1) ∨ (jv = .int .i64 2 ∧ RowE wq.heap.size w' tv (es1 ++ es2)))) (fun _ jv _ => 2 - (intOf jv).toNat)
      case atStart => exact ⟨HB2.out, .inl ⟨rfl, HR2.out⟩⟩
      case round =>
        obtain ⟨hB, hh⟩ := hrel
        have HB := Hid.mk' hB
        rcases hh with ⟨rfl, hR⟩ | ⟨rfl, hR⟩ | ⟨rfl, hR⟩
        · have g1 : wr.cell? ⟨v0, 0, none⟩ = some (.slice a1 n1 c1) := (hB.cell (p := ⟨v0, 0, none⟩) hv0).trans HK1.out
          have hrd := H1.out.below hB
          have HR := Hid.mk' hR
          have hlo : wq.heap.size ≤ wr.heap.size := hB.size
          have HEL : Hid (∀ e ∈ es1, ElE wr u6.ownBlock e) := fun e he => ElE.far (H1.out.2.2.2 e he) HB.out (fun k hk => (HR.out.row.lt k hk).1)
          have hrow := hR.row
          by_cases h0 : n1 = 0
          · subst h0
            have e0 : es1 = [] := List.length_eq_zero_iff.1 HN1.out
            have HX : Hid (RowE wq.heap.size wr u6 es1) := by rw [e0]; exact hR
            clear hB hR hrd e0
            go_wp2_with (at_builtin; refine wpList_app0g rfl (.tmp 31) (.tmp 32) 24 rfl wq.heap.size 45 i0 1 Tryz.underlying24 hi0 _ 0 [] rfl hrow a1 c1 rfl ?_)
            go_roundw
            case rel => exact ⟨HB.out, .inr (.inl ⟨by first | rfl | go_num, HX.out⟩)⟩
            case measure => first | (simp [intOf]; done) | (simp [intOf]; omega)
          · obtain ⟨b, off, rfl, hb, _⟩ := hrd.2.2.1.resolve_left (by rw [HN1.out]; exact h0)
            have hnews := hrd.news
            have hone := oneE es1
            have hlen : (es1.map E.v).length = n1 * 1 := by rw [List.length_map, HN1.out, Nat.mul_one]
            have HRND : Hid (∀ (g0 cap0 : Nat) (w5 : World), w5.ownsRow wq.heap.size 45 1 (.slice (some ⟨g0, 0, none⟩) (0 + n1) cap0) (0 + n1) ([] ++ es1.map E.v) → wr.grownBy w5 u6.ownBlock → (u6.ownBlock = some g0 ∨ g0 = wr.heap.size) → RowE wq.heap.size w5 (.slice (some ⟨g0, 0, none⟩) n1 cap0) es1) := fun g0 cap0 w5 q1 q2 q3 => by
              have := HR.out.app (es' := es1) HEL.out (g0 := g0) (cap0 := cap0) q2 (by rw [HN1.out]; exact q1) q3
              rw [HN1.out] at this
              simp only [List.length_nil, Nat.zero_add] at this ⊢
              exact this
            clear hB hR hrd
            go_wp2_with (at_builtin; refine wpList_append_lies _ rfl (.tmp 31) (.tmp 32) 24 rfl wq.heap.size 45 i0 _ 1 24 Tryz.underlying24 hi0 hz0 hz1 hz2 rfl (by omega) _ 0 [] rfl hrow ⟨b, off, none⟩ n1 c1 (es1.map E.v) rfl hlen hnews hone (by omega) (by unfold maxLen; omega) (by omega) hlo _ rfl ?_; intro g0 cap0 w5 hown1 hgrow hat hlt1; have HX := Hid.mk' (HRND.out g0 cap0 w5 hown1 hgrow hat); have HB5 := Hid.mk' (HB.out.grown hgrow hlo (fun k e => (HR.out.row.lt k e).1)); clear hown1 hgrow hat hlt1 hnews hone hlen hrow)
            go_roundw
            case rel => exact ⟨HB5.out, .inr (.inl ⟨by first | rfl | go_num, HX.out⟩)⟩
            case measure => first | (simp [intOf]; done) | (simp [intOf]; omega)
        · have g1 : wr.cell? ⟨v0, 1, none⟩ = some (.slice a2 n2 c2) := (hB.cell (p := ⟨v0, 1, none⟩) hv0).trans HK2.out
          have hrd := H2.out.below hB
          have HR := Hid.mk' hR
          have hlo : wq.heap.size ≤ wr.heap.size := hB.size
          have HEL : Hid (∀ e ∈ es2, ElE wr u6.ownBlock e) := fun e he => ElE.far (H2.out.2.2.2 e he) HB.out (fun k hk => (HR.out.row.lt k hk).1)
          have hrow := hR.row
          rw [HN1.out] at hrow
          by_cases h0 : n2 = 0
          · subst h0
            have e0 : es2 = [] := List.length_eq_zero_iff.1 HN2.out
            have HX : Hid (RowE wq.heap.size wr u6 (es1 ++ es2)) := by rw [e0, List.append_nil]; exact hR
            clear hB hR hrd e0
            go_wp2_with (at_builtin; refine wpList_app0g rfl (.tmp 31) (.tmp 32) 24 rfl wq.heap.size 45 i0 1 Tryz.underlying24 hi0 _ n1 (es1.map E.v) rfl hrow a2 c2 rfl ?_)
            go_roundw
            case rel => exact ⟨HB.out, .inr (.inr ⟨by first | rfl | go_num, HX.out⟩)⟩
            case measure => first | (simp [intOf]; done) | (simp [intOf]; omega)
          · obtain ⟨b, off, rfl, hb, _⟩ := hrd.2.2.1.resolve_left (by rw [HN2.out]; exact h0)
            have hnews := hrd.news
            have hone := oneE es2
            have hlen : (es2.map E.v).length = n2 * 1 := by rw [List.length_map, HN2.out, Nat.mul_one]
            have HRND : Hid (∀ (g0 cap0 : Nat) (w5 : World), w5.ownsRow wq.heap.size 45 1 (.slice (some ⟨g0, 0, none⟩) (n1 + n2) cap0) (n1 + n2) (es1.map E.v ++ es2.map E.v) → wr.grownBy w5 u6.ownBlock → (u6.ownBlock = some g0 ∨ g0 = wr.heap.size) → RowE wq.heap.size w5 (.slice (some ⟨g0, 0, none⟩) (n1 + n2) cap0) (es1 ++ es2)) := fun g0 cap0 w5 q1 q2 q3 => by
              have := HR.out.app (es' := es2) HEL.out (g0 := g0) (cap0 := cap0) q2 (by rw [HN1.out, HN2.out]; exact q1) q3
              rw [HN1.out, HN2.out] at this
              exact this
            clear hB hR hrd
            go_wp2_with (at_builtin; refine wpList_append_lies _ rfl (.tmp 31) (.tmp 32) 24 rfl wq.heap.size 45 i0 _ 1 24 Tryz.underlying24 hi0 hz0 hz1 hz2 rfl (by omega) _ n1 (es1.map E.v) rfl hrow ⟨b, off, none⟩ n2 c2 (es2.map E.v) rfl hlen hnews hone (by omega) (by unfold maxLen; omega) (by omega) hlo _ rfl ?_; intro g0 cap0 w5 hown1 hgrow hat hlt1; have HX := Hid.mk' (HRND.out g0 cap0 w5 hown1 hgrow hat); have HB5 := Hid.mk' (HB.out.grown hgrow hlo (fun k e => (HR.out.row.lt k e).1)); clear hown1 hgrow hat hlt1 hnews hone hlen hrow)
            go_roundw
            case rel => exact ⟨HB5.out, .inr (.inr ⟨by first | rfl | go_num, HX.out⟩)⟩
            case measure => first | (simp [intOf]; done) | (simp [intOf]; omega)
        · have HR := Hid.mk' hR
          clear hB hR
          go_wp2
          refine bodyPost_ret (results_tmp rfl _ _ _) rfl ?_
          exact ⟨u6, rfl, HB.out, HR.out⟩
end Go.Proofs.YtdidlcjhodejjaaGreat
