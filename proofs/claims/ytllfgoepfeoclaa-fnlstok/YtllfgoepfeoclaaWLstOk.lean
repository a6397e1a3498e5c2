/-
  The walk of FnLstOk: whatever the code, it comes out true, and nothing that was there is turned.
-/
import Derived.Test.YtllfgoepfeoclaaDrawL
import Derived.Test.YtllfgoepfeoclaaGag
import Derived.Test.YtllfgoepfeoclaaGai
namespace Go.Proofs.Ytllfgoepfeoclaa
open Go.RowKit Go.Deep Go.Joins
set_option linter.unusedVariables false

theorem rds_of_owns {w : World} {lo lo' : Nat} {g' : Option Nat} {v : Value} {LS : List Value} (h : w.ownsRow lo 30 1 v LS.length LS) (hE : ∀ e ∈ LS, El w lo' g' e) (hl : LS.length ≤ 100) : ∃ a c ad ln cp f, v = .slice a LS.length c ∧ RdS w a LS.length c ad ln cp f := by
  have each : ∀ i, i < LS.length → ∃ t : (Option Addr × Nat × Nat) × (Nat → T), LS[i]? = some (.slice t.1.1 t.1.2.1 t.1.2.2) ∧ Rd w t.1.1 t.1.2.1 t.1.2.2 t.2 := fun i hi => by
    obtain ⟨a, n, c, f, e, hr, _⟩ := hE LS[i] (List.getElem_mem hi)
    exact ⟨((a, n, c), f), by rw [List.getElem?_eq_getElem hi, e], hr⟩
  haveI : Inhabited ((Option Addr × Nat × Nat) × (Nat → T)) := ⟨((none, 0, 0), fun _ => ⟨0, ⟨0, 0, 0, 0⟩⟩)⟩
  obtain ⟨q, hq⟩ := choose_lt each
  rcases h.2 with ⟨hv, h0⟩ | ⟨g, cap, cur, hv, hlo, hg, hn, hm, hs, ht⟩
  · exact ⟨none, 0, fun i => (q i).1.1, fun i => (q i).1.2.1, fun i => (q i).1.2.2, fun i => (q i).2, by rw [hv, h0], by omega, by omega, .inl h0, fun i hi => (hq i hi).2⟩
  · have hat : ∀ j, j < LS.length * 1 → cur[j]? = LS[j]? := by
      intro j hj
      have e : (cur.toList.take (LS.length * 1))[j]? = LS[j]? := by rw [ht]
      rw [List.getElem?_take_of_lt hj] at e
      simpa using e
    have hrow : w.rowIs g 30 (cap * 1) (fun j => cur.getD j undef) := ⟨cur, hg, hs, fun j hj => by
      have hjs : j < cur.size := by omega
      show cur[j]? = some (cur.getD j undef)
      rw [Array.getD_eq_getD_getElem?, Array.getElem?_eq_getElem hjs]
      rfl⟩
    refine ⟨some ⟨g, 0, none⟩, cap, fun i => (q i).1.1, fun i => (q i).1.2.1, fun i => (q i).1.2.2, fun i => (q i).2, hv, hn, by omega, .inr ⟨g, 0, rfl, hrow.lt, fun i hi => ?_⟩, fun i hi => (hq i hi).2⟩
    rw [Nat.zero_add, hrow.cell (by omega), Array.getD_eq_getD_getElem?, hat i (by omega), (hq i hi).1]
    rfl
def ListD (w : World) (e : Ending) (w' : World) : Prop := ∃ (a : Option Addr) (n c : Nat) (ad : Nat → Option Addr) (ln cp : Nat → Nat) (f : Nat → Nat → T), e = .returned (.slice a n c) ∧ RdS w' a n c ad ln cp f ∧ n ≤ 13 ∧ Below w.heap.size w w'
theorem ListD.mk {w w' : World} {a : Option Addr} {n c : Nat} {ad : Nat → Option Addr} {ln cp : Nat → Nat} {f : Nat → Nat → T} (h1 : RdS w' a n c ad ln cp f) (h2 : n ≤ 13) (h3 : Below w.heap.size w w') : ListD w (.returned (.slice a n c)) w' := ⟨a, n, c, ad, ln, cp, f, rfl, h1, h2, h3⟩
def slLen (v : Value) : Nat := match v with | .slice _ n _ => n | _ => 0
theorem one_rd (w : World) (t : T) : Rd (w.alloc (.cells #[.int .i64 t.c, .int .i64 t.m.x, .int .i64 t.m.y, .int .i64 t.m.d, .int .i64 t.m.e] 27)) (some ⟨w.heap.size, 0, none⟩) 1 1 (fun _ => t) :=
  ⟨Nat.le_refl _, by omega, .inr ⟨w.heap.size, 0, rfl, by simp, fun i hi => by
    obtain rfl : i = 0 := by omega
    exact ⟨by rw [World.cell?_alloc_at _ _ _ _ rfl]; rfl, by rw [World.cell?_alloc_at _ _ _ _ rfl]; rfl, by rw [World.cell?_alloc_at _ _ _ _ rfl]; rfl, by rw [World.cell?_alloc_at _ _ _ _ rfl]; rfl, by rw [World.cell?_alloc_at _ _ _ _ rfl]; rfl⟩⟩⟩
set_option maxRecDepth 100000 in
set_option maxHeartbeats 4000000 in
theorem drawLstOk (w : World) (a : Option Addr) (len cap : Nat) (h : Src w a len cap) :
    Calls Try.prog 21 #[.slice a len cap] w (ListD w) := by
  obtain ⟨tI, hi0, hz0, hz1, hz2⟩ := info_parts infoTS
  go_enter Try.func21, Try.ntmps21
  go_wp2_with fail
  refine (open_any _ _ _ _ h).mono ?_
  rintro e w1 ⟨rfl, hR1, b1⟩
  have hl1 := hR1.lt
  clear h
  go_wp2_with fail
  refine (list_any w1 _ _ 4 3 hR1 (by omega) (by omega) (by omega) (by omega) (by omega)).mono ?_
  rintro e w2 ⟨v, LS, q, rfl, ho, hlen, hE, hq, hR2, s2⟩
  have b2 := s2.below b1 (Nat.le_refl _) (by omega)
  have hs2 := s2.size
  have HO := Hid.mk' ho
  have HE := Hid.mk' hE
  clear hR1 s2 b1 ho hE
  go_wp2_with fail
  refine (pick_any w2 _ _ 12 hR2 (by omega) (by omega) (by omega)).mono ?_
  rintro e w3 ⟨x, rfl, x0, x1, hk⟩
  have HB3 := Hid.mk' (hk.beside.below b2 (Nat.le_refl _) (by omega))
  have HO3 := Hid.mk' (owns_beside HO.out hk.beside (by omega))
  have HE3 : Hid (∀ e ∈ LS, El w3 w1.heap.size v.ownBlock e) := fun e he => (HE.out e he).beside hk.beside (by omega)
  have hs3 : w1.heap.size ≤ w3.heap.size := by have := hk.beside.size; omega
  clear hk hR2 b2 HO HE
  by_cases hx : x = 0
  · subst hx
    go_wp2
    go_loopw [4] (fun vv wr => ∃ LS2 : List Value, LS2.length ≤ 13 ∧ wr.ownsRow w1.heap.size 30 1 vv LS2.length LS2 ∧ (∀ e ∈ LS2, El wr w1.heap.size vv.ownBlock e) ∧ Below w.heap.size w wr ∧ w1.heap.size ≤ wr.heap.size) (fun vv _ => 13 - slLen vv)
    case atStart => exact ⟨LS, by omega, HO3.out, HE3.out, HB3.out, hs3⟩
    case round =>
      obtain ⟨LS2, hl2, ho2, hE2, hB2, hsz2⟩ := hrel
      obtain ⟨a', c', ad, ln, cp, f, rfl, hr⟩ := rds_of_owns ho2 hE2 (by omega)
      have HB2 := Hid.mk' hB2
      have HR2 := Hid.mk' hr
      by_cases hle : LS2.length ≤ 12
      · have hlb : (LS2.length : Int) ≤ 12 := by omega
        have hElt : ∀ kk, (Value.slice a' LS2.length c').ownBlock = some kk → kk < wr.heap.size := fun kk hkk => (ho2.lt kk hkk).2
        have HLt : Hid (∀ kk, (Value.slice a' LS2.length c').ownBlock = some kk → w1.heap.size ≤ kk) := fun kk hkk => (ho2.lt kk hkk).1
        have hrd := one_rd wr ⟨1, ⟨0, 0, 0, 0⟩⟩
        have b1' := bel_one wr (.cells #[.int .i64 1, .int .i64 0, .int .i64 0, .int .i64 0, .int .i64 0] 27)
        have b2' := bel_one (wr.alloc (.cells #[.int .i64 1, .int .i64 0, .int .i64 0, .int .i64 0, .int .i64 0] 27)) (.cells #[.slice (some ⟨wr.heap.size, 0, none⟩) 1 1] 30)
        have hP : El (wr.alloc (.cells #[.int .i64 1, .int .i64 0, .int .i64 0, .int .i64 0, .int .i64 0] 27)) w1.heap.size (Value.slice a' LS2.length c').ownBlock (.slice (some ⟨wr.heap.size, 0, none⟩) 1 1) := ⟨_, 1, 1, _, rfl, hrd, by omega, .inr ⟨wr.heap.size, 0, rfl, hsz2, fun ee => by have := hElt wr.heap.size ee.symm; omega⟩⟩
        have HE7 : Hid (∀ e ∈ LS2 ++ [.slice (some ⟨wr.heap.size, 0, none⟩) 1 1], El ((wr.alloc (.cells #[.int .i64 1, .int .i64 0, .int .i64 0, .int .i64 0, .int .i64 0] 27)).alloc (.cells #[.slice (some ⟨wr.heap.size, 0, none⟩) 1 1] 30)) w1.heap.size (Value.slice a' LS2.length c').ownBlock e) := fun e he => by
          rcases List.mem_append.1 he with h | h
          · exact ((hE2 e h).below b1').below b2'
          · have : e = .slice (some ⟨wr.heap.size, 0, none⟩) 1 1 := by simpa using h
            subst this
            exact hP.below b2'
        have hO7 := (ho2.alloc (.cells #[.int .i64 1, .int .i64 0, .int .i64 0, .int .i64 0, .int .i64 0] 27)).alloc (.cells #[.slice (some ⟨wr.heap.size, 0, none⟩) 1 1] 30)
        have hB7 := bel_next (bel_next hB2 b1') b2'
        have hnew := heap_alloc_new (wr.alloc (.cells #[.int .i64 1, .int .i64 0, .int .i64 0, .int .i64 0, .int .i64 0] 27)) (.cells #[.slice (some ⟨wr.heap.size, 0, none⟩) 1 1] 30)
        rw [World.size_alloc] at hnew
        have hnews : ∀ jj u, [Value.slice (some ⟨wr.heap.size, 0, none⟩) 1 1][jj]? = some u → ((wr.alloc (.cells #[.int .i64 1, .int .i64 0, .int .i64 0, .int .i64 0, .int .i64 0] 27)).alloc (.cells #[.slice (some ⟨wr.heap.size, 0, none⟩) 1 1] 30)).cell? ((⟨wr.heap.size + 1, 0, none⟩ : Addr).add jj) = some u := World.news_of_block hnew
        have hone : ∀ u ∈ [Value.slice (some ⟨wr.heap.size, 0, none⟩) 1 1], u.oneCell' = true := fun u hu => by
          have : u = .slice (some ⟨wr.heap.size, 0, none⟩) 1 1 := by simpa using hu
          subst this; rfl
        have hbase : w1.heap.size ≤ ((wr.alloc (.cells #[.int .i64 1, .int .i64 0, .int .i64 0, .int .i64 0, .int .i64 0] 27)).alloc (.cells #[.slice (some ⟨wr.heap.size, 0, none⟩) 1 1] 30)).heap.size := by simp; omega
        have hmax : LS2.length + 1 ≤ maxLen := by unfold maxLen; omega
        have HB7 := Hid.mk' hB7
        have hww : w.heap.size ≤ w1.heap.size := by omega
        clear hP hElt hnew hE2 hrd b1' b2' hr hB7
        go_wp2_with (at_builtin; refine wpList_append_lies _ rfl (.tmp 15) (.tmp 18) 39 rfl w1.heap.size 30 tI _ 1 24 Try.underlying39 hi0 hz0 hz1 hz2 rfl (by omega) _ LS2.length LS2 rfl hO7 ⟨wr.heap.size + 1, 0, none⟩ 1 1 [.slice (some ⟨wr.heap.size, 0, none⟩) 1 1] rfl rfl hnews hone (by omega) hmax (by omega) hbase _ rfl ?_; intro g0 cap0 w7 hown1 hgrow hat hlt1)
        have HO8 := Hid.mk' hown1
        have HB8 := Hid.mk' (HB7.out.grown hgrow HB7.out.size (fun kk hkk => by have := HLt.out kk hkk; omega))
        have HE8 : Hid (∀ e ∈ LS2 ++ [.slice (some ⟨wr.heap.size, 0, none⟩) 1 1], El w7 w1.heap.size (some g0) e) := fun e he => (HE7.out e he).grown hgrow hat (Nat.le_refl _)
        have hs8 : w1.heap.size ≤ w7.heap.size := Nat.le_trans hbase hgrow.size
        clear hown1 hgrow hat hlt1
        go_roundw
        case rel => exact ⟨LS2 ++ [.slice (some ⟨wr.heap.size, 0, none⟩) 1 1], by simp; omega, by rw [List.length_append]; exact HO8.out, HE8.out, HB8.out, hs8⟩
        case measure => simp [slLen]; omega
      · have hlb : ¬ (LS2.length : Int) ≤ 12 := by omega
        clear ho2 hE2
        go_wp2
        go_ret
        exact ListD.mk HR2.out (by omega) HB2.out
  · have hxb : (x == 0) = false := by simp [hx]
    obtain ⟨a', c', ad, ln, cp, f, rfl, hr⟩ := rds_of_owns HO3.out HE3.out (by omega)
    go_wp2
    go_ret
    exact ListD.mk hr (by omega) HB3.out
def okTo (n : Nat) (ln : Nat → Nat) (f : Nat → Nat → T) (i : Nat) : Bool := decide (n ≤ 12 ∧ ∀ j, j < i → ln j ≠ 0 ∧ polOk (ln j) (f j) = true)
theorem okTo_zero (n : Nat) (ln : Nat → Nat) (f : Nat → Nat → T) : okTo n ln f 0 = decide (n ≤ 12) := by
  unfold okTo
  by_cases h : n ≤ 12
  · rw [decide_eq_true h, decide_eq_true ⟨h, fun j hj => by omega⟩]
  · rw [decide_eq_false h, decide_eq_false (fun hh => h hh.1)]
theorem okTo_step (n : Nat) (ln : Nat → Nat) (f : Nat → Nat → T) (i : Nat) : okTo n ln f (i + 1) = (okTo n ln f i && (polOk (ln i) (f i) && decide (0 < ln i))) := by
  unfold okTo
  by_cases h : n ≤ 12 ∧ ∀ j, j < i → ln j ≠ 0 ∧ polOk (ln j) (f j) = true
  · rw [decide_eq_true h, Bool.true_and]
    by_cases h2 : polOk (ln i) (f i) = true ∧ 0 < ln i
    · rw [h2.1, decide_eq_true h2.2]
      exact decide_eq_true ⟨h.1, fun j hj => by
        by_cases e : j = i
        · rw [e]; exact ⟨by omega, h2.1⟩
        · exact h.2 j (by omega)⟩
    · have h3 : (polOk (ln i) (f i) && decide (0 < ln i)) = false := by
        cases hp : polOk (ln i) (f i)
        · rfl
        · rw [Bool.true_and]; exact decide_eq_false (fun q => h2 ⟨hp, q⟩)
      rw [h3]
      exact decide_eq_false (fun hh => h2 ⟨(hh.2 i (by omega)).2, by have := (hh.2 i (by omega)).1; omega⟩)
  · rw [decide_eq_false h, Bool.false_and]
    exact decide_eq_false (fun hh => h ⟨hh.1, fun j hj => hh.2 j (by omega)⟩)
set_option maxRecDepth 100000 in
set_option maxHeartbeats 4000000 in
theorem walk_FnLstOk (w : World) (a0 : Option Addr) (len0 cap0 : Nat) (s0 : Src w a0 len0 cap0) :
    Calls Try.prog 5 #[.slice a0 len0 cap0] w fun e w' => e = .returned (.bool true) ∧ Below w.heap.size w w' := by
  by_cases c0 : (1048576 : Int) < (len0 : Int)
  · go_enter Try.func5, Try.ntmps5
    go_wp2
    go_ret
    exact ⟨rfl, Below.refl _ _⟩
  go_enter Try.func5, Try.ntmps5
  go_wp2_with fail
  refine (drawLstOk _ _ _ _ s0).mono ?_
  rintro e w1 ⟨a, n, c, ad, ln, cp, f, rfl, hr, hn, b1⟩
  have HR := Hid.mk' hr
  have HB := Hid.mk' b1
  have hn13 : (n : Int) ≤ 13 := by omega
  have hdec : decide ((n : Int) ≤ 12) = okTo n ln f 0 := by
    rw [okTo_zero]
    by_cases h : n ≤ 12
    · rw [decide_eq_true h]; exact decide_eq_true (by omega)
    · rw [decide_eq_false h]; exact decide_eq_false (by omega)
  have HD := Hid.mk' hdec
  clear s0 hr b1 hdec
  go_wp2
  go_loopw [4, 5] (fun v ii wr => ∃ i : Nat, i ≤ n ∧ ii = .int .i64 (i : Int) ∧ v = .bool (okTo n ln f i) ∧ Below w1.heap.size w1 wr) (fun _ ii _ => n - (intOf ii).toNat)
  case atStart => exact ⟨0, Nat.zero_le _, rfl, by rw [← HD.out], Below.refl _ _⟩
  case round =>
    obtain ⟨i, hi, rfl, rfl, hB⟩ := hrel
    have HB2 := Hid.mk' hB
    by_cases hlt : i < n
    · have hil : (i : Int) < (n : Int) := by omega
      rcases (HR.out.below hB).2.2.1 with h0 | ⟨b, off, rfl, hblt, hcl⟩
      · omega
      have g0 := hcl i hlt
      have HK := Hid.mk' ((HR.out.below hB).2.2.2 i hlt)
      have hst := okTo_step n ln f i
      clear hcl hB
      cases hv : okTo n ln f i
      · rw [hv, Bool.false_and] at hst
        have HST := Hid.mk' hst
        clear hst
        go_wp2
        go_roundw
        case rel => exact ⟨i + 1, by omega, by go_num, by rw [HST.out], HB2.out⟩
        case measure => simp [intOf]; omega
      · rw [hv, Bool.true_and] at hst
        cases hp : polOk (ln i) (f i)
        · rw [hp, Bool.false_and] at hst
          have HST := Hid.mk' hst
          clear hst
          go_wp2_with fail
          refine (polOkI _ _ _ _ (f i) HK.out).mono ?_
          rw [hp]
          rintro r w2 ⟨rfl, hb2⟩
          have HB3 := Hid.mk' (bel_next HB2.out hb2)
          clear hb2 g0
          go_wp2
          go_roundw
          case rel => exact ⟨i + 1, by omega, by go_num, by rw [HST.out], HB3.out⟩
          case measure => simp [intOf]; omega
        · rw [hp, Bool.true_and] at hst
          have hd : decide ((0 : Int) < (ln i : Int)) = okTo n ln f (i + 1) := by
            rw [hst]
            by_cases h : 0 < ln i
            · rw [decide_eq_true h]; exact decide_eq_true (by omega)
            · rw [decide_eq_false h]; exact decide_eq_false (by omega)
          have HST := Hid.mk' hd
          clear hst hd
          go_wp2_with fail
          refine (polOkI _ _ _ _ (f i) HK.out).mono ?_
          rw [hp]
          rintro r w2 ⟨rfl, hb2⟩
          have HB3 := Hid.mk' (bel_next HB2.out hb2)
          have g1 : w2.cell? ⟨b, off + i, none⟩ = some (.slice (ad i) (ln i) (cp i)) := (hb2.cell (p := ⟨b, off + i, none⟩) hblt).trans g0
          clear hb2 g0
          go_wp2
          go_roundw
          case rel => exact ⟨i + 1, by omega, by go_num, by rw [← HST.out]; first | rfl | simp, HB3.out⟩
          case measure => simp [intOf]; omega
    · have hnl : ¬ (i : Int) < (n : Int) := by omega
      have hie : i = n := by omega
      subst hie
      have e1 : lstOk i ln f = okTo i ln f i := rfl
      have R1 := Hid.mk' (HR.out.below hB)
      have HB3 := Hid.mk' (bel_next HB.out hB)
      have c1 := fun (W : World) (h : RdS W a i c ad ln cp f) => lstOkI W a i c ad ln cp f h
      have c2 := fun (W : World) (h : RdS W a i c ad ln cp f) => lstOkS W a i c ad ln cp f h
      rw [e1] at c1 c2
      generalize okTo i ln f i = bv at *
      have hbb : (bv == bv) = true := by simp
      clear hB HB2 e1 HD
      go_wp2_with fail
      refine (c1 _ R1.out).mono ?_
      rintro r w2 ⟨rfl, hb2⟩
      have R2 := Hid.mk' (R1.out.below hb2)
      have HB4 := Hid.mk' (bel_next HB3.out hb2)
      clear hb2 R1 HB3
      go_wp2_with fail
      refine (c1 _ R2.out).mono ?_
      rintro r w3 ⟨rfl, hb3⟩
      have R3 := Hid.mk' (R2.out.below hb3)
      have HB5 := Hid.mk' (bel_next HB4.out hb3)
      clear hb3 R2 HB4
      go_wp2_with fail
      refine (c2 _ R3.out).mono ?_
      rintro r w4 ⟨rfl, hb4⟩
      have HB6 := Hid.mk' (bel_next HB5.out hb4)
      clear hb4 R3 HB5 c1 c2
      go_wp2_with fail
      refine (heOneT _).mono ?_
      rintro r w5 ⟨rfl, rfl⟩
      have HB7 := Hid.mk' (bel_next HB6.out (bel_one w4 (.cells #[.int .i64 1, .int .i64 0, .int .i64 0, .int .i64 0, .int .i64 0] 27)))
      have hrd := one_rd w4 ⟨1, ⟨0, 0, 0, 0⟩⟩
      have b2' := bel_one (w4.alloc (.cells #[.int .i64 1, .int .i64 0, .int .i64 0, .int .i64 0, .int .i64 0] 27)) (.cells #[.slice (some ⟨w4.heap.size, 0, none⟩) 1 1] 30)
      have HB8 := Hid.mk' (bel_next HB7.out b2')
      have hone : RdS ((w4.alloc (.cells #[.int .i64 1, .int .i64 0, .int .i64 0, .int .i64 0, .int .i64 0] 27)).alloc (.cells #[.slice (some ⟨w4.heap.size, 0, none⟩) 1 1] 30)) (some ⟨w4.heap.size + 1, 0, none⟩) 1 1 (fun _ => some ⟨w4.heap.size, 0, none⟩) (fun _ => 1) (fun _ => 1) (fun _ _ => ⟨1, ⟨0, 0, 0, 0⟩⟩) := by
        refine ⟨Nat.le_refl _, by omega, .inr ⟨w4.heap.size + 1, 0, rfl, by simp, fun i hi => ?_⟩, fun i hi => hrd.below b2'⟩
        obtain rfl : i = 0 := by omega
        rw [World.cell?_alloc_at _ _ _ _ (by rw [World.size_alloc])]
        rfl
      have HONE := Hid.mk' hone
      have hlo : lstOk 1 (fun _ => 1) (fun _ _ => ⟨1, ⟨0, 0, 0, 0⟩⟩) = true := by decide
      clear hrd b2' hone HB7
      go_wp2_with fail
      refine (lstOkI _ _ _ _ _ _ _ _ HONE.out).mono ?_
      rw [hlo]
      rintro r w6 ⟨rfl, hb6⟩
      have HB9 := Hid.mk' (bel_next HB8.out hb6)
      clear hb6
      go_wp2
      go_ret
      exact ⟨rfl, HB9.out⟩
end Go.Proofs.Ytllfgoepfeoclaa
