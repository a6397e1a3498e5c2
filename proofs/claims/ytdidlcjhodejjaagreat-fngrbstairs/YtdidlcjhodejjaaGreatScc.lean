/-
  The program's least basis (impl.GrbLeast): what it answers, and that the answer's memory is its own.
  The program's least basis (impl.GrbLeast).
  The least basis, as lists: no greatest monomial divides another one; each is free of the others, with 1 times its greatest monomial; they rise.
-/
import Derived.Test.YtdidlcjhodejjaaGreatScb
import Derived.Shelf.RegionOpenPlain
import Derived.Test.YtdidlcjhodejjaaGreatSbz
import Derived.Test.YtdidlcjhodejjaaGreatSbp
namespace Go.Proofs.YtdidlcjhodejjaaGreat
open Go.RowKit Go.Deep Go.Joins
set_option linter.unusedVariables false

theorem need_congr {k k' : Nat → M} {n i : Nat} (h : ∀ j, j < n → k j = k' j) (hi : i < n) : need k n i = need k' n i := by
  rw [Bool.eq_iff_iff]
  simp only [need, decide_eq_true_eq]
  constructor
  · intro hh j hj; rw [← h j hj, ← h i hi]; exact hh j hj
  · intro hh j hj; rw [h j hj, h i hi]; exact hh j hj
/-- a row of its own, each in its place. -/
theorem RowE.rw {lo : Nat} {w : World} {g cap : Nat} {es : List E} (h : RowE lo w (.slice (some ⟨g, 0, none⟩) es.length cap) es) : RwE g w es.length (fun i => es.getD i E0) where
  row := by
    rcases h.row.2 with ⟨hv, h0⟩ | ⟨g', cap', cur, hv, hlo, hg, hn, hm, hs, ht⟩
    · cases hv
    · cases hv
      refine ⟨cap * 1, by omega, fun j => cur.getD j undef, ⟨cur, hg, hs, fun j hj => ?_⟩, fun j hj => ?_⟩
      · have hjs : j < cur.size := by omega
        show cur[j]? = some (cur.getD j undef)
        rw [Array.getD_eq_getD_getElem?, Array.getElem?_eq_getElem hjs]
        rfl
      · have e : (cur.toList.take (es.length * 1))[j]? = (es.map E.v)[j]? := by rw [ht]
        rw [List.getElem?_take_of_lt (by omega), List.getElem?_map, (getE hj).1] at e
        show cur.getD j undef = (es.getD j E0).v
        rw [Array.getD_eq_getD_getElem?]
        have e2 : cur[j]? = some (es.getD j E0).v := by simpa using e
        rw [e2]
        rfl
  el := fun j hj => h.el _ (getE hj).2
theorem preE_self (es : List E) : preE (fun i => es.getD i E0) es.length = es := by
  refine List.ext_getElem (preE_len _ _) (fun i h1 h2 => ?_)
  have := preE_at (fun i => es.getD i E0) (n := es.length) (i := i) h2
  rw [List.getD_eq_getElem?_getD, List.getElem?_eq_getElem h1] at this
  rw [List.getD_eq_getElem?_getD, List.getElem?_eq_getElem h2] at this
  exact this
theorem RwE.rd {g : Nat} {w : World} {n cap : Nat} {F : Nat → E} (h : RwE g w n F) (hn : n ≤ 100) (hc : n ≤ cap) : RdE w (some ⟨g, 0, none⟩) cap (preE F n) := by
  refine ⟨by rw [preE_len]; exact hc, by rw [preE_len]; exact hn, .inr ⟨g, 0, rfl, h.lt, fun i e he => ?_⟩, fun e he => ?_⟩
  · have hi : i < n := by have := (List.getElem?_eq_some_iff.1 he).1; rwa [preE_len] at this
    have := preE_at F hi
    rw [List.getD_eq_getElem?_getD, he] at this
    rw [Nat.zero_add, h.cell hi, ← this]
    rfl
  · obtain ⟨i, hi, rfl⟩ := List.mem_map.1 he
    exact (h.el i (by simpa using hi)).1
/-- the row on its way: the first j are new, each in memory of its own. -/
structure LsW (lo g : Nat) (w : World) (N j : Nat) (G : Nat → E) (B : Nat → Nat) : Prop where
  rw : RwE g w N G
  nw : ∀ i, i < j → Wr w (G i).a (G i).p.length (lf (G i).p) ∧ ∃ off, (G i).a = some ⟨B i, off, none⟩ ∧ lo ≤ B i ∧ B i < w.heap.size ∧ B i ≠ g
  ap : ∀ i k, i < k → k < j → B i < B k
theorem LsW.below {lo g : Nat} {w w' : World} {N j : Nat} {G : Nat → E} {B : Nat → Nat} (h : LsW lo g w N j G B) (hb : Below w.heap.size w w') : LsW lo g w' N j G B where
  rw := h.rw.below hb
  nw := fun i hi => ⟨(h.nw i hi).1.below hb, (h.nw i hi).2.imp fun off ⟨e1, e2, e3, e4⟩ => ⟨e1, e2, Nat.lt_of_lt_of_le e3 hb.size, e4⟩⟩
  ap := h.ap
theorem LsW.put {lo g : Nat} {w : World} {N j : Nat} {G : Nat → E} {B : Nat → Nat} {m : Nat} (h : LsW lo g w N j G B) (hj : j < N) (hm : ∀ i, i < j → B i < m) (hgm : g < m) (hlm : lo ≤ m) {a : Option Addr} {c : Nat} {Y : List T} (hO : Out m w a c Y) (h0 : Y.length ≠ 0) :
    ∃ B', LsW lo g (w.setCell ⟨g, j, none⟩ (.slice a Y.length c)) N (j + 1) (fun i => if i = j then ⟨a, c, Y⟩ else G i) B' := by
  obtain ⟨b, off, e, hb⟩ := hO.2.2.resolve_left h0
  have hbl : b < w.heap.size := (hO.1.under.resolve_left h0) b off e
  have hg : w.grownBy (w.setCell ⟨g, j, none⟩ (.slice a Y.length c)) (some g) := ⟨rfl, rfl, rfl, by simp, fun k hk hne => Below.heap_setCell _ _ _ _ (fun q => hne (by rw [q]))⟩
  have hE : ElE w (some g) ⟨a, c, Y⟩ := ⟨hO.1, .inr fun b' off' e1 e2 => by
    have e1' : a = some ⟨b', off', none⟩ := e1
    rw [e] at e1'; cases e1'
    have : g = b := by simpa using e2
    omega⟩
  refine ⟨fun i => if i = j then b else B i, ⟨h.rw.set hE, fun i hi => ?_, fun i k hik hk => ?_⟩⟩
  · by_cases q : i = j
    · simp only [if_pos q]
      refine ⟨hO.2.1.grown hg (.inr fun b' off' e1 e2 => ?_), off, e, by omega, by simpa using hbl, by omega⟩
      rw [e] at e1; cases e1
      have : b = g := by simpa using e2
      omega
    · simp only [if_neg q]
      obtain ⟨w1, off1, e1, e2, e3, e4⟩ := h.nw i (by omega)
      refine ⟨w1.grown hg (.inr fun b' off' q1 q2 => ?_), off1, e1, e2, by simpa using e3, e4⟩
      rw [e1] at q1; cases q1
      exact e4 (by simpa using q2)
  · show (if i = j then b else B i) < (if k = j then b else B k)
    rw [if_neg (show ¬ i = j by omega)]
    by_cases q : k = j
    · rw [if_pos q]
      have := hm i (by omega)
      omega
    · rw [if_neg q]
      exact h.ap i k hik (by omega)
theorem LsW.out {lo g : Nat} {w : World} {N cap : Nat} {G : Nat → E} {B : Nat → Nat} (h : LsW lo g w N N G B) (hN : N ≤ 100) (hc : N ≤ cap) (hlo : lo ≤ g) {l : List (List T)} (hl : (preE G N).map E.p = l) : l.length = N ∧ OutS lo w (some ⟨g, 0, none⟩) N cap (fun i => (G i).a) (lN (Lof l)) (fun i => (G i).c) (fN (Lof l)) g B := by
  have hle : l.length = N := by rw [← hl, List.length_map, preE_len]
  have hof : ∀ i, i < N → Lof l i = (G i).p := fun i hi => by rw [← hl, lof_map, preE_at G hi]
  refine ⟨hle, ⟨⟨hc, by omega, .inr ⟨g, 0, rfl, h.rw.lt, fun i hi => ?_⟩, fun i hi => ?_⟩, .inr ⟨0, rfl, hlo⟩, fun i hi => ?_, fun i hi => ?_, fun i k hik hk _ _ => ?_⟩⟩
  · rw [Nat.zero_add, h.rw.cell hi]
    show some (Value.slice (G i).a (G i).p.length (G i).c) = some (.slice (G i).a (Lof l i).length (G i).c)
    rw [hof i hi]
  · show Rd w (G i).a (Lof l i).length (G i).c (lf (Lof l i))
    rw [hof i hi]
    exact (h.rw.el i hi).1
  · show Wr w (G i).a (Lof l i).length (lf (Lof l i))
    rw [hof i hi]
    exact (h.nw i hi).1
  · obtain ⟨_, off, e1, e2, _, e4⟩ := h.nw i hi
    exact .inr ⟨off, e1, e2, e4⟩
  · have := h.ap i k hik hk
    omega
theorem preE_put (G : Nat → E) {N j : Nat} (e : E) (hj : j < N) : preE (fun i => if i = j then e else G i) N = putL (preE G N) j e := by
  rw [putL_set (by rw [preE_len]; exact hj)]
  refine List.ext_getElem (by rw [List.length_set, preE_len, preE_len]) (fun i h1 h2 => ?_)
  rw [List.getElem_set]
  simp only [preE, List.getElem_map, List.getElem_range]
  by_cases q : i = j
  · simp [q]
  · rw [if_neg q, if_neg (fun q' => q q'.symm)]
def LeastO (w : World) (R : Option (List (List T))) (r : Ending) (w' : World) : Prop := Below w.heap.size w w' ∧ ((∃ l qa qc ad cp Rb B, R = some l ∧ r = .returned (.tuple #[.slice qa l.length qc, .bool true]) ∧ OutS w.heap.size w' qa l.length qc ad (lN (Lof l)) cp (fN (Lof l)) Rb B) ∨ (R = none ∧ r = .returned (.tuple #[.slice none 0 0, .bool false])))
end Go.Proofs.YtdidlcjhodejjaaGreat
namespace Go.Proofs.YtdidlcjhodejjaaGreat
open Go.RowKit Go.Deep Go.Joins
set_option linter.unusedVariables false

set_option maxRecDepth 100000 in
set_option maxHeartbeats 8000000 in
theorem grbLeastI (w : World) (o : Int) (a : Option Addr) (n cap : Nat) (ad : Nat → Option Addr) (cp : Nat → Nat) (L : Nat → List T) (h : RdS w a n cap ad (lN L) cp (fN L)) :
    Calls Tryz.prog 12 #[.int .i64 o, .slice a n cap] w (LeastO w (grbLeast o n L)) := by
  have HH := Hid.mk' h
  have q1 : (n : Int) ≤ 140737488351232 := by have := h.2.1; omega
  clear h
  by_cases ho : 1 ≤ o ∧ o ≤ 3
  rotate_left
  · have e : grbLeast o n L = none := if_neg (fun q => ho q.1)
    rw [e]
    go_enter Tryz.func12, Tryz.ntmps12
    go_wp2_with fail
    refine (redLeadsI_out _ o _ _ _ (by omega)).mono ?_
    rintro r w1 ⟨rfl, hb1⟩
    have HB1 := Hid.mk' hb1
    clear hb1
    go_wp2
    refine bodyPost_ret (results_tmp2 rfl _ _ _) rfl ?_
    exact ⟨HB1.out, .inr ⟨rfl, rfl⟩⟩
  cases hl : lstOk n (lN L) (fN L)
  · have e : grbLeast o n L = none := if_neg (fun q => by rw [hl] at q; exact absurd q.2 (by simp))
    rw [e]
    go_enter Tryz.func12, Tryz.ntmps12
    go_wp2_with fail
    refine (redLeadsI_no _ o _ _ _ _ _ _ _ HH.out ho.1 ho.2 hl).mono ?_
    rintro r w1 ⟨rfl, hb1⟩
    have HB1 := Hid.mk' hb1
    clear hb1
    go_wp2
    refine bodyPost_ret (results_tmp2 rfl _ _ _) rfl ?_
    exact ⟨HB1.out, .inr ⟨rfl, rfl⟩⟩
  obtain ⟨i0, hi0, hz0, hz1, hz2⟩ := info_glP
  have n12 := (lstOk_all hl).1
  have hnl : (n : Int) ≤ 12 := by omega
  have hR0 : grbLeast o n L = lstRun o (leastL o n L).length 0 (leastL o n L) := if_pos ⟨ho, hl⟩
  obtain ⟨R0, hR0e⟩ : ∃ R0, grbLeast o n L = R0 := ⟨_, rfl⟩
  rw [hR0e] at hR0 ⊢
  have HR0 := Hid.mk' hR0
  obtain ⟨hlk, hl12⟩ := leastL_ok (o := o) hl
  have HLK := Hid.mk' hlk
  obtain ⟨nd, hnd⟩ : ∃ nd, need (fun i => (ldL o (L i)).m) n = nd := ⟨_, rfl⟩
  have HND := Hid.mk' hnd
  have HL0 : Hid (∀ es : List E, es = selN nd (esOf ad cp L) n → (srtN (ltE o) [] es).map E.p = leastL o n L ∧ es.length ≤ 12 ∧ (leastL o n L).length = es.length ∧ ∀ e ∈ es, okL e.p = true ∧ e.p.length ≠ 0) := fun es he => by
    have h1 : es.map E.p = selN nd L n := by rw [he, selN_map]; rfl
    refine ⟨?_, ?_, ?_, fun e hee => ?_⟩
    · show (srtN (fun a b => ltO o a.p b.p) [] es).map E.p = _
      rw [srtN_map E.p (ltO o), h1, ← hnd]; rfl
    · have := selN_len nd (esOf ad cp L) n
      rw [he]; omega
    · unfold leastL
      rw [srtN_len, hnd, ← h1, List.length_map, List.length_nil, Nat.zero_add]
    · have : e.p ∈ selN nd L n := by rw [← h1]; exact List.mem_map_of_mem hee
      exact lst_okA hl e.p this
  clear hR0 hR0e hlk hnd
  go_enter Tryz.func12, Tryz.ntmps12
  go_wp2_with fail
  refine (redLeadsI _ o _ _ _ _ _ _ _ HH.out ho.1 ho.2 hl).mono ?_
  rintro r w1 ⟨v, rfl, hb1, ho1⟩
  obtain ⟨la, lc, rfl, hout⟩ := out_of_owns ho1 (by rw [ldsL_len]; omega)
  have hld := hout.1
  rw [ldsL_len] at hld
  rw [ldsL_len]
  have HLD := Hid.mk' hld
  have HB1 := Hid.mk' hb1
  have hf : ∀ i, i < n → lf (ldsL o (lN L) (fN L) n) i = ldL o (L i) := fun i hi => ldsL_at o (lN L) (fN L) n i hi
  have HNEED : Hid (∀ j, j < n → need (fun i => (lf (ldsL o (lN L) (fN L) n) i).m) n j = nd j) := fun j hj => by
    rw [← HND.out]
    exact need_congr (fun i hi => by show (lf (ldsL o (lN L) (fN L) n) i).m = (ldL o (L i)).m; rw [hf i hi]) hj
  have hsw : w.heap.size ≤ w1.heap.size := hb1.size
  clear hb1 ho1 hout hld hf
  go_wp2
  go_loopw [8, 24] (fun tv ii wr => ∃ (j : Nat), j ≤ n ∧ ii = .int .i64 (j : Int) ∧ Below w1.heap.size w1 wr ∧ RowE w1.heap.size wr tv (selN nd (esOf ad cp L) j)) (fun _ ii _ => n - (intOf ii).toNat)
  case atStart => exact ⟨0, Nat.zero_le _, rfl, Below.refl _ _, RowE.nil _ _⟩
  case round =>
    obtain ⟨j, hj, rfl, hB, hA⟩ := hrel
    have HB := Hid.mk' hB
    have HA := Hid.mk' hA
    have hjl := selN_len nd (esOf ad cp L) j
    by_cases hlt : j < n
    · have hjn : (j : Int) < (n : Int) := by omega
      obtain ⟨b1, off1, ea, hb1, hc1⟩ := HH.out.2.2.1.resolve_left (by omega)
      obtain ⟨l, hlen⟩ : ∃ l, (L j).length = l := ⟨_, rfl⟩
      have kc : wr.cell? ⟨b1, off1 + j, none⟩ = some (.slice (ad j) l (cp j)) := ((bel_next HB1.out hB).cell (p := ⟨b1, off1 + j, none⟩) hb1).trans (by rw [← hlen]; exact hc1 j hlt)
      have hcall := idlNeededI wr la n lc (lf (ldsL o (lN L) (fN L) n)) j (HLD.out.below hB) hlt
      rw [HNEED.out j hlt] at hcall
      have HCL := Hid.mk' hcall
      have HLEN := Hid.mk' hlen
      have HEJ := Hid.mk' (RdS.el (HH.out.below (bel_next HB1.out hB)) hlt)
      have hskip : nd j = false → selN nd (esOf ad cp L) (j + 1) = selN nd (esOf ad cp L) j := fun hg => if_neg (by rw [hg]; simp)
      have htake : nd j = true → selN nd (esOf ad cp L) (j + 1) = selN nd (esOf ad cp L) j ++ [esOf ad cp L j] := fun hg => if_pos hg
      have HSK := Hid.mk' hskip
      have HTK := Hid.mk' htake
      subst ea
      clear hB hA hc1 hcall hlen hskip htake
      cases hg : nd j
      · have HS := Hid.mk' (HSK.out hg)
        go_wp2_with fail
        refine HCL.out.mono ?_
        rw [hg]
        rintro r w2 ⟨rfl, hb2⟩
        have HB2 := Hid.mk' (bel_next HB.out hb2)
        have HA2 := Hid.mk' (HA.out.below hb2)
        clear hb2 kc hg
        go_wp2
        go_roundw
        case rel => exact ⟨j + 1, by omega, by go_num, HB2.out, by rw [HS.out]; exact HA2.out⟩
        case measure => simp [intOf]; omega
      · have HT := Hid.mk' (HTK.out hg)
        go_wp2_with fail
        refine HCL.out.mono ?_
        rw [hg]
        rintro r w2 ⟨rfl, hb2⟩
        have bx := bel_one w2 (.cells #[.slice (ad j) l (cp j)] 45)
        have HB2 := Hid.mk' (bel_next (bel_next HB.out hb2) bx)
        have HA2 := Hid.mk' ((HA.out.below hb2).below bx)
        have hrow := HA2.out.row
        obtain ⟨m, hm⟩ : ∃ m, (selN nd (esOf ad cp L) j).length = m := ⟨_, rfl⟩
        rw [hm] at hrow hjl
        have hnews : ∀ jj u, [Value.slice (ad j) l (cp j)][jj]? = some u → (w2.alloc (.cells #[.slice (ad j) l (cp j)] 45)).cell? ((⟨w2.heap.size, 0, none⟩ : Addr).add jj) = some u := World.news_of_block (heap_alloc_new w2 _)
        have hone : ∀ u ∈ [Value.slice (ad j) l (cp j)], u.oneCell' = true := fun u hu => by
          have : u = .slice (ad j) l (cp j) := by simpa using hu
          subst this; rfl
        have hbase : w1.heap.size ≤ (w2.alloc (.cells #[.slice (ad j) l (cp j)] 45)).heap.size := HB2.out.size
        have HEL : Hid (ElE (w2.alloc (.cells #[.slice (ad j) l (cp j)] 45)) u8.ownBlock (esOf ad cp L j)) := by
          refine ElE.far (w := w) (HH.out.el hlt) (bel_next HB1.out HB2.out) (fun k hk => ?_)
          have := (HA2.out.row.lt k hk).1
          omega
        have HRND : Hid (∀ (g0 cap0 : Nat) (w5 : World), w5.ownsRow w1.heap.size 45 1 (.slice (some ⟨g0, 0, none⟩) (m + 1) cap0) (m + 1) ((selN nd (esOf ad cp L) j).map E.v ++ [.slice (ad j) l (cp j)]) → (w2.alloc (.cells #[.slice (ad j) l (cp j)] 45)).grownBy w5 u8.ownBlock → (u8.ownBlock = some g0 ∨ g0 = (w2.alloc (.cells #[.slice (ad j) l (cp j)] 45)).heap.size) → RowE w1.heap.size w5 (.slice (some ⟨g0, 0, none⟩) (m + 1) cap0) (selN nd (esOf ad cp L) (j + 1))) := fun g0 cap0 w5 p1 p2 p3 => by
          have := HA2.out.app (es' := [esOf ad cp L j]) (fun e he => by rw [List.mem_singleton.1 he]; exact HEL.out) (g0 := g0) (cap0 := cap0) p2 (by rw [hm]; show w5.ownsRow _ _ _ _ (m + 1) (_ ++ [Value.slice (ad j) (L j).length (cp j)]); rw [HLEN.out]; exact p1) p3
          rw [hm] at this
          rw [HT.out]
          exact this
        clear hb2 bx kc hg hm
        go_wp2_with (at_builtin; refine wpList_append_lies _ rfl (.tmp 32) (.tmp 34) 24 rfl w1.heap.size 45 i0 _ 1 24 Tryz.underlying24 hi0 hz0 hz1 hz2 rfl (by omega) _ m ((selN nd (esOf ad cp L) j).map E.v) rfl hrow ⟨w2.heap.size, 0, none⟩ 1 1 [.slice (ad j) l (cp j)] rfl rfl hnews hone (by omega) (by unfold maxLen; omega) (by omega) hbase _ rfl ?_; intro g0 cap0 w5 hown1 hgrow hat hlt1; have HX := Hid.mk' (HRND.out g0 cap0 w5 hown1 hgrow hat); have HB5 := Hid.mk' (HB2.out.grown hgrow hbase (fun k e => (HA2.out.row.lt k e).1)); clear hown1 hgrow hat hlt1 hnews hone hrow hbase)
        go_roundw
        case rel => exact ⟨j + 1, by omega, by go_num, HB5.out, HX.out⟩
        case measure => simp [intOf]; omega
    · have hjn : ¬ (j : Int) < (n : Int) := by omega
      have hje : j = n := by omega
      subst hje
      obtain ⟨es, hes⟩ : ∃ es, selN nd (esOf ad cp L) j = es := ⟨_, rfl⟩
      rw [hes] at hA hjl
      obtain ⟨e1, e2, e3, e4⟩ := HL0.out es hes.symm
      have HE1 := Hid.mk' e1
      have HE4 := Hid.mk' e4
      have hRs : lstRun o es.length 0 (leastL o j L) = R0 := by rw [HR0.out, e3]
      have HRS := Hid.mk' hRs
      clear hB hes e1 e3 e4 hRs HA HL0 HNEED HND HLD HR0
      obtain ⟨W0, hW0⟩ : ∃ x, x = wr := ⟨_, rfl⟩
      subst hW0
      rcases hA.row.2 with ⟨hv, h0⟩ | ⟨g, capg, cur, hv, hlo, hg, hnc, _⟩
      · subst hv
        have e0 : es = [] := List.length_eq_zero_iff.1 h0
        subst e0
        have hR : R0 = some [] := by rw [← HRS.out, ← HE1.out]; rfl
        subst hR
        clear hA
        go_wp2_with fail
        refine (sortStI0 _ o _).mono ?_
        rintro r w3 ⟨rfl, hw3⟩
        obtain rfl := hw3.symm
        clear hw3
        go_wp2
        go_loopw [43] (fun v w' => v = .int .i64 0 ∧ w' = W0) (fun _ _ => 0)
        case atStart => exact ⟨rfl, rfl⟩
        case round =>
          obtain ⟨rfl, rfl⟩ := hrel
          go_wp2
          refine bodyPost_ret (results_tmp2 rfl _ _ _) rfl ?_
          exact ⟨bel_next HB1.out HB.out, .inl ⟨[], none, 0, fun _ => none, fun _ => 0, 0, fun _ => 0, rfl, rfl, ⟨⟨Nat.le_refl _, Nat.zero_le _, .inl rfl, fun i hi => absurd hi (Nat.not_lt_zero _)⟩, .inl rfl, fun i hi => absurd hi (Nat.not_lt_zero _), fun i hi => absurd hi (Nat.not_lt_zero _), fun i j _ hj => absurd hj (Nat.not_lt_zero _)⟩⟩⟩
      · subst hv
        obtain ⟨N, hN⟩ : ∃ N, es.length = N := ⟨_, rfl⟩
        have hrw := hA.rw
        rw [hN] at hrw e2 hnc hjl HRS ⊢
        have hgw : w.heap.size ≤ g := by omega
        have hNI : (N : Int) ≤ 12 := by omega
        have hNc : (N : Int) ≤ (capg : Int) := by omega
        have hgl := hrw.lt
        have hsrt := sortStI W0 o g N capg (fun i => es.getD i E0) ho hrw e2 (fun j hj => HE4.out _ (getE (by omega)).2)
        have hpre : (preE (sndE (ltE o) (N - 1) 1 (fun i => es.getD i E0)) N) = srtN (ltE o) [] es := by rw [snd_all, ← hN, preE_self]
        obtain ⟨G0, hG0⟩ : ∃ G0, sndE (ltE o) (N - 1) 1 (fun i => es.getD i E0) = G0 := ⟨_, rfl⟩
        rw [hG0] at hsrt hpre
        have HP0 : Hid ((preE G0 N).map E.p = leastL o j L) := by show _ = _; rw [hpre, HE1.out]
        have HSRT := Hid.mk' hsrt
        clear hsrt hpre hG0 hA hrw hg hN HE1 HE4
        go_wp2_with fail
        refine HSRT.out.mono ?_
        rintro r w3 ⟨rfl, hg3, hr3⟩
        have HB3 := Hid.mk' ((bel_next HB1.out HB.out).grown hg3 (bel_next HB1.out HB.out).size (fun k e => by cases e; exact hgw))
        have HR3 := Hid.mk' hr3
        clear hg3 hr3 HSRT
        go_wp2
        go_loopw [43] (fun ii wr => ∃ (i : Nat) (G : Nat → E) (B : Nat → Nat) (l : List (List T)), i ≤ N ∧ ii = .int .i64 (i : Int) ∧ Below w.heap.size w wr ∧ LsW w.heap.size g wr N i G B ∧ Hid ((preE G N).map E.p = l) ∧ Hid (okA l) ∧ Hid (lstRun o (N - i) i l = R0)) (fun ii _ => N - (intOf ii).toNat)
        case atStart => exact ⟨0, G0, fun _ => 0, leastL o j L, Nat.zero_le _, rfl, HB3.out, ⟨HR3.out, fun i hi => absurd hi (Nat.not_lt_zero _), fun i k _ hk => absurd hk (Nat.not_lt_zero _)⟩, HP0, HLK, HRS⟩
        case round =>
          obtain ⟨i, G, B, l, hi, rfl, hBr, hW, HP, HO, HR⟩ := hrel
          by_cases hit : i < N
          · have hiI : (i : Int) < (N : Int) := by omega
            obtain ⟨x, hx⟩ : ∃ x, G i = x := ⟨_, rfl⟩
            have kc := hW.rw.cell hit
            rw [hx] at kc
            have kc' : wr.cell? ⟨g, i, none⟩ = some (.slice x.a x.p.length x.c) := kc
            have hi1 : (i : Int) + 1 ≤ (N : Int) := by omega
            have hic : (i : Int) ≤ (capg : Int) := by omega
            have hgr := hW.rw.lt
            have hwi : IntKind.i64.wrap ((i : Int) + 1) = (i : Int) + 1 := by rw [IntKind.wrap_i64]; omega
            have ei : ((i : Int) + 1).toNat = i + 1 := by omega
            have hi0' : ¬ ((i : Int) + 1 < 0) := by omega
            have hi2 : i + 1 ≤ N := by omega
            have hi3 : N ≤ capg := hnc
            have HX := Hid.mk' hx
            have hlen1 : ((preE G N).take i).length = i := by rw [List.length_take, preE_len]; omega
            have hlen2 : ((preE G N).drop (i + 1)).length = N - (i + 1) := by rw [List.length_drop, preE_len]
            have hrdw := hW.rw.rd (cap := capg) (by omega) hnc
            have HCC : Hid (∀ (A2 : Option Addr) (C2 : Nat), RdE wr A2 C2 ((preE G N).drop (i + 1)) → Calls Tryz.prog 49 #[.slice (some ⟨wr.heap.size, 0, none⟩) 2 2] (wr.alloc (.cells #[.slice (some ⟨g, 0, none⟩) i capg, .slice A2 (N - (i + 1)) C2] 24)).drew fun r w' => ∃ oa oc, r = .returned (.slice oa (N - 1) oc) ∧ Below w.heap.size w w' ∧ RdE w' oa oc (othL (preE G N) i) ∧ LsW w.heap.size g w' N i G B ∧ wr.heap.size ≤ w'.heap.size) := fun A2 C2 hA2 => by
              have bx : Below wr.heap.size wr (wr.alloc (.cells #[.slice (some ⟨g, 0, none⟩) i capg, .slice A2 (N - (i + 1)) C2] 24)).drew := (bel_one wr _).drew
              refine (concatI _ wr.heap.size (some ⟨g, 0, none⟩) capg ((preE G N).take i) A2 C2 ((preE G N).drop (i + 1)) ?_ ?_ ((hrdw.takeE (by rw [preE_len]; omega)).below bx) (hA2.below bx) (by rw [hlen1, hlen2]; omega)).mono ?_
              · rw [hlen1]
                show (wr.alloc _).cell? _ = _
                rw [World.cell?_alloc_at _ _ _ _ rfl]; rfl
              · rw [hlen2]
                show (wr.alloc _).cell? _ = _
                rw [World.cell?_alloc_at _ _ _ _ rfl]; rfl
              · rintro r w' ⟨tv, rfl, hb, hR⟩
                have hl : (othL (preE G N) i).length = N - 1 := by rw [othL_len (by rw [preE_len]; exact hit), preE_len]
                obtain ⟨oa, oc, etv, hrd⟩ := RowE.rd (es := othL (preE G N) i) hR (by rw [hl]; omega)
                rw [hl] at etv
                subst etv
                exact ⟨oa, oc, rfl, bel_next (bel_next hBr bx) hb, hrd, (hW.below bx).below hb, Nat.le_trans bx.size hb.size⟩
            have hlx : Lof l i = x.p := by rw [← HP.out, lof_map, preE_at G hit, hx]
            have hot : (othL (preE G N) i).map E.p = othL l i := by rw [othL_map, HP.out]
            have hol : (othL (preE G N) i).length = N - 1 := by rw [othL_len (by rw [preE_len]; exact hit), preE_len]
            have HLF : Hid (∀ (W : World) (oa : Option Addr) (oc : Nat), RL W x.a x.c x.p → RdE W oa oc (othL (preE G N) i) → Calls Tryz.prog 50 #[.int .i64 o, .slice x.a x.p.length x.c, .slice oa (N - 1) oc] W fun r w' => Below W.heap.size W w' ∧ ((∃ Y a' c', lftL o (Lof l i) (othL l i) = some Y ∧ r = .returned (.tuple #[.slice a' Y.length c', .bool true]) ∧ Out W.heap.size w' a' c' Y) ∨ (lftL o (Lof l i) (othL l i) = none ∧ r = .returned (.tuple #[.slice none 0 0, .bool false])))) := fun W oa oc h1 h2 => by
              have h3 := h2.rds
              rw [hot, hol] at h3
              have := idlLeftI W o x.a x.c x.p oa (N - 1) oc _ _ (Lof (othL l i)) ho h1 h3 rfl
              rw [lftL_R, hlx, ← hot, List.length_map, hol, hot]
              exact this
            clear kc hBr hW hlen1 hlen2 hlx hot hol hx
            by_cases hce : capg = i + 1
            · subst hce
              have hNi : N = i + 1 := by omega
              have HRX : Hid (RdE wr (some ⟨g, 0, none⟩) 0 ((preE G N).drop (i + 1))) := by
                have : (preE G N).drop (i + 1) = [] := List.drop_eq_nil_of_le (by rw [preE_len]; omega)
                rw [this]
                exact ⟨Nat.le_refl _, Nat.zero_le _, .inl rfl, fun e he => by cases he⟩
              clear hrdw hNi
              go_wp2_with fail
              have HC5 := Hid.mk' (HCC.out (some ⟨g, 0, none⟩) 0 HRX.out)
              rw [show N - (i + 1) = 0 by omega] at HC5
              go_region_with (go_at_call 49; refine HC5.out.mono ?_; rintro r w5 ⟨oa, oc, rfl, hB5, hrd5, hW5, hs5⟩; have HB5 := Hid.mk' hB5; have HW5 := Hid.mk' hW5; have HRD5 := Hid.mk' hrd5; clear hB5 hW5 hrd5)
              all_goals
                have hx5 : RL w5 x.a x.c x.p := by
                  have := (HW5.out.rw.el i hit).1
                  rw [HX.out] at this
                  exact this
                have HC6 := Hid.mk' (HLF.out w5 oa oc hx5 HRD5.out)
                clear hx5 HC5 kc'
                go_wp2_with fail
                refine HC6.out.mono ?_
                rintro r w6 ⟨hb6, hh⟩
                have HB6 := Hid.mk' (bel_next HB5.out hb6)
                have HW6 := Hid.mk' (HW5.out.below hb6)
                have k6 := HW6.out.rw.cell hit
                rw [HX.out] at k6
                have c6 : w6.cell? ⟨g, i, none⟩ = some (.slice x.a x.p.length x.c) := k6
                have f6 : w6.frozen? ⟨g, i, none⟩ = false := HW6.out.rw.frozen i
                have hs6 : w5.heap.size ≤ w6.heap.size := hb6.size
                rcases hh with ⟨Y, ya, yc, hY, rfl, hO⟩ | ⟨hY, rfl⟩
                · have hY0 := lftL_ok hY
                  obtain ⟨B', hW7⟩ := HW6.out.put (m := w5.heap.size) hit (fun k hk => by obtain ⟨_, _, _, _, e3, _⟩ := HW5.out.nw k hk; exact e3) HW5.out.rw.lt HB5.out.size hO hY0.2
                  have HW7 := Hid.mk' hW7
                  have HB7 := Hid.mk' (HB6.out.setCell (p := ⟨g, i, none⟩) hgw (.slice ya Y.length yc))
                  have HP7 : Hid ((preE (fun k => if k = i then ⟨ya, yc, Y⟩ else G k) N).map E.p = putL l i Y) := by
                    show _ = _
                    rw [preE_put G _ hit, putL_map, HP.out]
                  have HO7 : Hid (okA (putL l i Y)) := putL_ok HO.out hY0
                  have HR7 : Hid (lstRun o (N - (i + 1)) (i + 1) (putL l i Y) = R0) := by
                    show _ = _
                    rw [← HR.out, show N - i = (N - (i + 1)) + 1 by omega, lstRun_yes hY]
                  clear hW7 hO hY hb6 k6 hY0
                  go_wp2
                  go_roundw
                  case rel => exact ⟨i + 1, _, B', putL l i Y, by omega, by go_num, HB7.out, HW7.out, HP7, HO7, HR7⟩
                  case measure => simp [intOf]; omega
                · have HB7 := Hid.mk' (HB6.out.setCell (p := ⟨g, i, none⟩) hgw (.slice none 0 0))
                  have hR7 : R0 = none := by rw [← HR.out, show N - i = (N - (i + 1)) + 1 by omega, lstRun_no hY]
                  subst hR7
                  clear hY hb6 k6
                  go_wp2
                  refine bodyPost_ret (results_tmp2 rfl _ _ _) rfl ?_
                  exact ⟨HB7.out, .inr ⟨rfl, rfl⟩⟩
            · have HRX : Hid (RdE wr (some ⟨g, i + 1, none⟩) (capg - (i + 1)) ((preE G N).drop (i + 1))) := by
                have := hrdw.dropE (k := i + 1) (by rw [preE_len]; omega)
                rw [Nat.zero_add] at this
                exact this
              clear hrdw
              go_wp2_with fail
              have HC5 := Hid.mk' (HCC.out (some ⟨g, i + 1, none⟩) (capg - (i + 1)) HRX.out)
              go_region_with (go_at_call 49; refine HC5.out.mono ?_; rintro r w5 ⟨oa, oc, rfl, hB5, hrd5, hW5, hs5⟩; have HB5 := Hid.mk' hB5; have HW5 := Hid.mk' hW5; have HRD5 := Hid.mk' hrd5; clear hB5 hW5 hrd5)
              all_goals
                have hx5 : RL w5 x.a x.c x.p := by
                  have := (HW5.out.rw.el i hit).1
                  rw [HX.out] at this
                  exact this
                have HC6 := Hid.mk' (HLF.out w5 oa oc hx5 HRD5.out)
                clear hx5 HC5 kc'
                go_wp2_with fail
                refine HC6.out.mono ?_
                rintro r w6 ⟨hb6, hh⟩
                have HB6 := Hid.mk' (bel_next HB5.out hb6)
                have HW6 := Hid.mk' (HW5.out.below hb6)
                have k6 := HW6.out.rw.cell hit
                rw [HX.out] at k6
                have c6 : w6.cell? ⟨g, i, none⟩ = some (.slice x.a x.p.length x.c) := k6
                have f6 : w6.frozen? ⟨g, i, none⟩ = false := HW6.out.rw.frozen i
                have hs6 : w5.heap.size ≤ w6.heap.size := hb6.size
                rcases hh with ⟨Y, ya, yc, hY, rfl, hO⟩ | ⟨hY, rfl⟩
                · have hY0 := lftL_ok hY
                  obtain ⟨B', hW7⟩ := HW6.out.put (m := w5.heap.size) hit (fun k hk => by obtain ⟨_, _, _, _, e3, _⟩ := HW5.out.nw k hk; exact e3) HW5.out.rw.lt HB5.out.size hO hY0.2
                  have HW7 := Hid.mk' hW7
                  have HB7 := Hid.mk' (HB6.out.setCell (p := ⟨g, i, none⟩) hgw (.slice ya Y.length yc))
                  have HP7 : Hid ((preE (fun k => if k = i then ⟨ya, yc, Y⟩ else G k) N).map E.p = putL l i Y) := by
                    show _ = _
                    rw [preE_put G _ hit, putL_map, HP.out]
                  have HO7 : Hid (okA (putL l i Y)) := putL_ok HO.out hY0
                  have HR7 : Hid (lstRun o (N - (i + 1)) (i + 1) (putL l i Y) = R0) := by
                    show _ = _
                    rw [← HR.out, show N - i = (N - (i + 1)) + 1 by omega, lstRun_yes hY]
                  clear hW7 hO hY hb6 k6 hY0
                  go_wp2
                  go_roundw
                  case rel => exact ⟨i + 1, _, B', putL l i Y, by omega, by go_num, HB7.out, HW7.out, HP7, HO7, HR7⟩
                  case measure => simp [intOf]; omega
                · have HB7 := Hid.mk' (HB6.out.setCell (p := ⟨g, i, none⟩) hgw (.slice none 0 0))
                  have hR7 : R0 = none := by rw [← HR.out, show N - i = (N - (i + 1)) + 1 by omega, lstRun_no hY]
                  subst hR7
                  clear hY hb6 k6
                  go_wp2
                  refine bodyPost_ret (results_tmp2 rfl _ _ _) rfl ?_
                  exact ⟨HB7.out, .inr ⟨rfl, rfl⟩⟩
          · have hiI : ¬ (i : Int) < (N : Int) := by omega
            have hie : i = N := by omega
            subst hie
            have hRl : R0 = some l := by rw [← HR.out, Nat.sub_self]; rfl
            subst hRl
            obtain ⟨hll, hOS⟩ := hW.out (cap := capg) (by omega) hnc hgw HP.out
            have HF : Hid (∃ l' qa qc ad cp Rb B, some l = some l' ∧ Ending.returned (.tuple #[.slice (some ⟨g, 0, none⟩) i capg, .bool true]) = .returned (.tuple #[.slice qa l'.length qc, .bool true]) ∧ OutS w.heap.size wr qa l'.length qc ad (lN (Lof l')) cp (fN (Lof l')) Rb B) := ⟨l, some ⟨g, 0, none⟩, capg, _, _, g, B, rfl, by rw [hll], by rw [hll]; exact hOS⟩
            have HBR := Hid.mk' hBr
            clear hBr hW hll hOS
            go_wp2
            refine bodyPost_ret (results_tmp2 rfl _ _ _) rfl ?_
            exact ⟨HBR.out, .inl HF.out⟩
end Go.Proofs.YtdidlcjhodejjaaGreat
namespace Go.Proofs.YtdidlcjhodejjaaGreat
open Go.RowKit Go.Deep Go.Joins
set_option linter.unusedVariables false

/-- what no greatest one divides keeps its greatest term. -/
theorem red_keep {o : Int} {p : List T} {n : Nat} {L : Nat → List T} {S : Dv} (h : redAll o p n (lN L) (fN L) = some S) (h0 : p.length ≠ 0) (hno : ∀ i, i < n → M.dvd (ldL o (L i)).m (ldL o p).m = false) : S.r.length ≠ 0 ∧ ldL o S.r = ldL o p := by
  obtain ⟨h1, h2, h3, h4⟩ := redAll_some h
  have hm := ldL_mem (o := o) h0
  have hg := ldL_good (o := o) (okL_falls h2).2 h0
  have htop := ldL_top h1 h2 h0
  generalize ht : ldL o p = t0 at *
  have key := redAll_keeps h (fun S => S = dvOf p ∨ ((∀ t ∈ S.p, rkW o t.m < rkW o t0.m) ∧ coef S.r t0.m = t0.c)) (.inl rfl) (fun u S S' hok hs0 hI hs => by
    rcases hI with rfl | ⟨i1, i2⟩
    · rcases dvStep_cases h3 hok.p hs0 hs with ⟨k, Y, hk, hd, _⟩ | ⟨_, rfl⟩
      · have hd' : M.dvd (ldL o (L k)).m (ldL o p).m = true := hd
        rw [ht, hno k hk] at hd'; cases hd'
      · right
        show (∀ t ∈ subL p [ldL o p], rkW o t.m < rkW o t0.m) ∧ coef (addL [] [ldL o p]) t0.m = t0.c
        rw [ht]
        have f1 := subL_facts (okL_falls h2).2 (fallsOne hg)
        have f2 := addL_facts falls_nil (fallsOne hg)
        have c1 : coef [t0] t0.m = t0.c := coef_cons_same t0 []
        refine ⟨fun t htm => ?_, by rw [f2.2, c1]; show (0 + t0.c) % 101 = t0.c; omega⟩
        have hle : rkW o t.m ≤ rkW o t0.m := by
          rcases mem_sub (okL_falls h2).2 (fallsOne hg) htm with ⟨a, ha, e⟩ | ⟨b, hb, e⟩
          · rw [← e]; exact htop a ha
          · rw [← e, List.mem_singleton.1 hb]; exact Int.le_refl _
        rcases Int.lt_or_le (rkW o t.m) (rkW o t0.m) with q | q
        · exact q
        · have e := rkW_inj (o := o) t.m t0.m (f1.1.2 t htm).1 hg.1 (by omega)
          have h5 := (mem_coefV f1.1 htm).2
          rw [e, f1.2, c1, (mem_coefV (okL_falls h2).2 hm).1] at h5
          exact absurd (by omega) h5
    · have hl := ldL_mem (o := o) hs0
      have hgl := ldL_good (o := o) (okL_falls hok.p).2 hs0
      right
      rcases dvStep_cases h3 hok.p hs0 hs with ⟨k, Y, hk, hd, ho, hY, _, rfl⟩ | ⟨_, rfl⟩
      · have hk2 := (lstOk_all h3).2 k hk
        have hpt := prod_top h1 hk2.2 hk2.1 hY
        have hsum := over_sum hd
        have hw := (rkW_wt o (overT (ldL o S.p) (ldL o (L k))).m (ldL o (L k)).m 0 0).2
        rw [hsum] at hw
        refine ⟨fun t htm => ?_, i2⟩
        rcases mem_sub (okL_falls hok.p).2 (wm_falls hY) htm with ⟨a, ha, e⟩ | ⟨b, hb, e⟩
        · rw [← e]; exact i1 a ha
        · rw [← e]
          have := hpt b hb
          have := i1 _ hl
          omega
      · refine ⟨fun t htm => ?_, ?_⟩
        · rcases mem_sub (okL_falls hok.p).2 (fallsOne hgl) htm with ⟨a, ha, e⟩ | ⟨b, hb, e⟩
          · rw [← e]; exact i1 a ha
          · rw [← e, List.mem_singleton.1 hb]; exact i1 _ hl
        · show coef (addL S.r [ldL o S.p]) t0.m = t0.c
          have hne : (ldL o S.p).m ≠ t0.m := fun e => by have := i1 _ hl; rw [e] at this; omega
          rw [(addL_facts hok.r.1 (fallsOne hgl)).2, i2, coef_cons_ne hne, coef_nil]
          omega)
  obtain ⟨hd, hpn⟩ := redAll_ok h
  rcases key with e | ⟨_, k2⟩
  · rw [e] at hpn
    have : p = [] := hpn
    rw [this] at h0
    exact absurd rfl h0
  · have hne : coef S.r t0.m ≠ 0 := by rw [k2]; omega
    obtain ⟨t, htm, e⟩ := coef_ne_mem1 hne
    have hr0 : S.r.length ≠ 0 := fun q => by rw [List.length_eq_zero_iff.1 q] at htm; cases htm
    refine ⟨hr0, ?_⟩
    have hrok := (redAll_rest h).1
    have q1 := (red_lead h htop).1 _ (ldL_mem (o := o) hr0)
    have q2 := ldL_top h1 hrok hr0 t htm
    rw [e] at q2
    have hgr := ldL_good (o := o) (okL_falls hrok).2 hr0
    have em := rkW_inj (o := o) (ldL o S.r).m t0.m hgr.1 hg.1 (by omega)
    have ec := (mem_coefV (okL_falls hrok).2 (ldL_mem (o := o) hr0)).1
    rw [em, k2] at ec
    cases hq : ldL o S.r
    rw [hq] at em ec
    cases t0
    simp_all
theorem scT1_one {t : T} (c1 : 1 ≤ t.c) (c2 : t.c ≤ 100) : (scT1 (fInv t.c) t).c = 1 ∧ (scT1 (fInv t.c) t).m = t.m := by
  refine ⟨?_, rfl⟩
  have h1 := fMul_inv (b := t.c) ⟨by omega, c2⟩ (by omega)
  have h2 := fInv_bd t.c
  unfold fMul at h1
  rw [if_pos (by omega)] at h1
  exact h1
theorem lftL_lead {o : Int} {p : List T} {oth : List (List T)} {Y : List T} (h : lftL o p oth = some Y) (h0 : p.length ≠ 0) (hno : ∀ q ∈ oth, M.dvd (ldL o q).m (ldL o p).m = false) : (ldL o Y).m = (ldL o p).m ∧ (ldL o Y).c = 1 ∧ (∀ t ∈ Y, ∀ q ∈ oth, M.dvd (ldL o q).m t.m = false) := by
  unfold lftL at h
  split at h
  · rename_i S hS
    split at h
    · cases h
    · rename_i hr0
      cases h
      obtain ⟨k1, k2⟩ := red_keep hS h0 (fun i hi => hno _ (lof_mem hi))
      have hrok := (redAll_rest hS).1
      obtain ⟨_, _, e⟩ := monL_ok (o := o) hrok hr0
      have hg := ldL_good (o := o) (okL_falls hrok).2 hr0
      rw [e, ldL_sc o _ hr0]
      obtain ⟨q1, q2⟩ := scT1_one hg.2.1 hg.2.2
      refine ⟨by rw [q2, k2], q1, fun t ht q hq => ?_⟩
      obtain ⟨a, ha, ea⟩ := mem_sc ht
      obtain ⟨i, hi, rfl⟩ := List.mem_iff_getElem.1 hq
      have := red_free hS a ha i hi
      rw [show Lof oth i = oth[i] by show oth.getD i [] = _; rw [List.getD_eq_getElem?_getD, List.getElem?_eq_getElem hi]; rfl] at this
      rw [← ea]; exact this
  · cases h
end Go.Proofs.YtdidlcjhodejjaaGreat
