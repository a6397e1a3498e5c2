/-
  Two lists of operators are drawn (spec.DrawRedSum).
-/
import Derived.Test.YtllfgoepfeoclabDrawL
namespace Go.Proofs.Ytllfgoepfeoclab
open Go.RowKit Go.Deep Go.Joins
set_option linter.unusedVariables false

theorem rds_owns {w : World} {lo lo' : Nat} {g' : Option Nat} {v : Value} {LS : List Value} (h : w.ownsRow lo 26 1 v LS.length LS) (hE : ∀ e ∈ LS, El w lo' g' e) (hl : LS.length ≤ 100) : ∃ a c ad ln cp f, v = .slice a LS.length c ∧ RdS w a LS.length c ad ln cp f := by
  have each : ∀ i, i < LS.length → ∃ t : (Option Addr × Nat × Nat) × (Nat → T), LS[i]? = some (.slice t.1.1 t.1.2.1 t.1.2.2) ∧ Rd w t.1.1 t.1.2.1 t.1.2.2 t.2 := fun i hi => by
    obtain ⟨a, n, c, f, e, hr, _⟩ := hE LS[i] (List.getElem_mem hi)
    exact ⟨((a, n, c), f), by rw [List.getElem?_eq_getElem hi, e], hr⟩
  haveI : Inhabited ((Option Addr × Nat × Nat) × (Nat → T)) := ⟨((none, 0, 0), fun _ => ⟨0, ⟨0, 0, 0, 0⟩⟩)⟩
  obtain ⟨q, hq⟩ := choose_lt each
  rcases h.2 with ⟨hv, h0⟩ | ⟨g, cap, cur, hv, hlo, hg, hn, hm, hs, ht⟩
  · exact ⟨none, 0, fun i => (q i).1.1, fun i => (q i).1.2.1, fun i => (q i).1.2.2, fun i => (q i).2, by rw [hv, h0], by omega, by omega, .inl h0, fun i hi => (hq i hi).2⟩
  · have hat : ∀ j, j < LS.length * 1 → cur[j]? = LS[j]? := by
      intro j hj
      have e : (cur.toList.take (LS.length * 1))[j]? = LS[j]? := by rw [ht]
      rw [List.getElem?_take_of_lt hj] at e
      simpa using e
    have hrow : w.rowIs g 26 (cap * 1) (fun j => cur.getD j undef) := ⟨cur, hg, hs, fun j hj => by
      have hjs : j < cur.size := by omega
      show cur[j]? = some (cur.getD j undef)
      rw [Array.getD_eq_getD_getElem?, Array.getElem?_eq_getElem hjs]
      rfl⟩
    refine ⟨some ⟨g, 0, none⟩, cap, fun i => (q i).1.1, fun i => (q i).1.2.1, fun i => (q i).1.2.2, fun i => (q i).2, hv, hn, by omega, .inr ⟨g, 0, rfl, hrow.lt, fun i hi => ?_⟩, fun i hi => (hq i hi).2⟩
    rw [Nat.zero_add, hrow.cell (by omega), Array.getD_eq_getD_getElem?, hat i (by omega), (hq i hi).1]
    rfl
theorem owns_grown {w w' : World} {base : Nat} {e : TypeId} {size : Nat} {v : Value} {n : Nat} {xs : List Value} {row : Option Nat} (h : w.ownsRow base e size v n xs) (hg : w.grownBy w' row) (hne : ∀ kk, v.ownBlock = some kk → row = some kk → False) : w'.ownsRow base e size v n xs := by
  refine ⟨h.1, h.2.imp id ?_⟩
  rintro ⟨g, cap, cur, hv, hlo, hgg, hn, hm, hs, ht⟩
  refine ⟨g, cap, cur, hv, hlo, ?_, hn, hm, hs, ht⟩
  have hlt : g < w.heap.size := (Array.getElem?_eq_some_iff.1 hgg).1
  exact (hg.block g hlt (fun ee => hne g (by rw [hv]; rfl) ee.symm)).trans hgg
def ListD2 (w : World) (e : Ending) (w' : World) : Prop := ∃ (a1 : Option Addr) (n1 c1 : Nat) (ad1 : Nat → Option Addr) (ln1 cp1 : Nat → Nat) (f1 : Nat → Nat → T) (a2 : Option Addr) (n2 c2 : Nat) (ad2 : Nat → Option Addr) (ln2 cp2 : Nat → Nat) (f2 : Nat → Nat → T), e = .returned (.tuple #[.slice a1 n1 c1, .slice a2 n2 c2]) ∧ RdS w' a1 n1 c1 ad1 ln1 cp1 f1 ∧ RdS w' a2 n2 c2 ad2 ln2 cp2 f2 ∧ n1 ≤ 6 ∧ n2 ≤ 5 ∧ Below w.heap.size w w'
theorem ListD2.mk {w w' : World} {a1 : Option Addr} {n1 c1 : Nat} {ad1 : Nat → Option Addr} {ln1 cp1 : Nat → Nat} {f1 : Nat → Nat → T} {a2 : Option Addr} {n2 c2 : Nat} {ad2 : Nat → Option Addr} {ln2 cp2 : Nat → Nat} {f2 : Nat → Nat → T} (h1 : RdS w' a1 n1 c1 ad1 ln1 cp1 f1) (h2 : RdS w' a2 n2 c2 ad2 ln2 cp2 f2) (l1 : n1 ≤ 6) (l2 : n2 ≤ 5) (h3 : Below w.heap.size w w') : ListD2 w (.returned (.tuple #[.slice a1 n1 c1, .slice a2 n2 c2])) w' := ⟨a1, n1, c1, ad1, ln1, cp1, f1, a2, n2, c2, ad2, ln2, cp2, f2, rfl, h1, h2, l1, l2, h3⟩
set_option maxRecDepth 100000 in
set_option maxHeartbeats 4000000 in
theorem drawRedSum (w : World) (a : Option Addr) (len cap : Nat) (h : Src w a len cap) :
    Calls Try.prog 5 #[.slice a len cap] w (ListD2 w) := by
  obtain ⟨tI, hi0, hz0, hz1, hz2⟩ := info_parts infoTS
  go_enter Try.func5, Try.ntmps5
  go_wp2_with fail
  refine (open_any _ _ _ _ h).mono ?_
  rintro e w1 ⟨rfl, hR1, b1⟩
  have hl1 := hR1.lt
  clear h
  go_wp2_with fail
  refine (list_any w1 _ _ 3 24 hR1 (by omega) (by omega) (by omega) (by omega) (by omega)).mono ?_
  rintro e w2 ⟨va, LA, q0, rfl, ho, hlen, hE, hq, hR2, s2⟩
  have b2 := s2.below b1 (Nat.le_refl _) (by omega)
  have hs2 := s2.size
  obtain ⟨aa, ca, ada, lna, cpa, fa, rfl, hra⟩ := rds_owns ho hE (by omega)
  have HOA := Hid.mk' ho
  have HEA := Hid.mk' hE
  have HR2 := Hid.mk' (hR2.alloc (.cells #[] 26))
  have HB2 := Hid.mk' b2
  have HS2 := Hid.mk' ((Beside.refl w.heap.size w2).alloc (.cells #[] 26))
  have HO2 : Hid ((w2.alloc (.cells #[] 26)).ownsRow w2.heap.size 26 1 (.slice (some ⟨w2.heap.size, 0, none⟩) 0 0) 0 []) := World.ownsRow_lit _ _ _ (Nat.le_refl _) (Nat.zero_le _) rfl
  have HKA : Hid (∀ kk, (Value.slice aa LA.length ca).ownBlock = some kk → kk < w2.heap.size) := fun kk hkk => (ho.lt kk hkk).2
  have HEL := Hid.mk' hE
  clear hR1 s2 b1 ho hE hR2 b2 hra
  go_wp2
  generalize (w2.alloc (.cells #[] 26)) = w3 at *
  go_loopw [6, 7] (fun vb ii wr => ∃ (i : Nat) (LB : List Value) (q : Nat), i ≤ LA.length ∧ ii = .int .i64 (i : Int) ∧ LB.length = i ∧ wr.ownsRow w2.heap.size 26 1 vb LB.length LB ∧ (∀ e ∈ LB, El wr w2.heap.size vb.ownBlock e) ∧ q ≤ q0 + 95 * i ∧ Rdr wr w.heap.size q ∧ Beside w.heap.size w2 wr) (fun _ ii _ => LA.length - (intOf ii).toNat)
  case atStart => exact ⟨0, [], q0, Nat.zero_le _, rfl, rfl, HO2.out, (fun e he => absurd he List.not_mem_nil), by omega, HR2.out, HS2.out⟩
  case round =>
    obtain ⟨i, LB, q, hi, rfl, hLB, ho, hE, hqq, hR, hb⟩ := hrel
    subst hLB
    have hbs := hb.size
    by_cases hlt : LB.length < LA.length
    · have hil : (LB.length : Int) < (LA.length : Int) := by omega
      have HO := Hid.mk' ho
      have HE := Hid.mk' hE
      have HB := Hid.mk' hb
      clear ho hE hb
      go_wp2_with fail
      refine (pol_any wr _ q 3 hR (by omega) (by omega) (by omega)).mono ?_
      rintro e w6 ⟨vp, L, q6, rfl, hop, hlp, hcp, hq6, hR6, hb6⟩
      obtain ⟨pa, pcap, rfl, hout⟩ := out_of_owns hop (by omega)
      have hOw := owns_beside HO.out hb6 (by omega)
      have hElt : ∀ kk, u6.ownBlock = some kk → kk < wr.heap.size := fun kk hkk => (HO.out.lt kk hkk).2
      have hP : El w6 w2.heap.size u6.ownBlock (.slice pa L.length pcap) := ⟨pa, L.length, pcap, lf L, rfl, hout.1, by omega, hout.2.2.imp id fun ⟨b, off, e, hlo⟩ => ⟨b, off, e, by omega, fun ee => by have := hElt b ee.symm; omega⟩⟩
      have hnew := heap_alloc_new w6 (.cells #[.slice pa L.length pcap] 26)
      have hO7 := hOw.alloc (.cells #[.slice pa L.length pcap] 26)
      have HE7 : Hid (∀ e ∈ LB ++ [.slice pa L.length pcap], El (w6.alloc (.cells #[.slice pa L.length pcap] 26)) w2.heap.size u6.ownBlock e) := fun e he => by
        rcases List.mem_append.1 he with h | h
        · exact ((HE.out e h).beside hb6 (by omega)).below (bel_one _ _)
        · have : e = .slice pa L.length pcap := by simpa using h
          subst this
          exact hP.below (bel_one _ _)
      have HR7 := Hid.mk' (hR6.alloc (.cells #[.slice pa L.length pcap] 26))
      have HB7 := Hid.mk' ((HB.out.trans hb6).alloc (.cells #[.slice pa L.length pcap] 26))
      have HLt : Hid (∀ kk, u6.ownBlock = some kk → w2.heap.size ≤ kk) := fun kk hkk => (HO.out.lt kk hkk).1
      have hnews : ∀ jj u, [Value.slice pa L.length pcap][jj]? = some u → (w6.alloc (.cells #[.slice pa L.length pcap] 26)).cell? ((⟨w6.heap.size, 0, none⟩ : Addr).add jj) = some u := World.news_of_block hnew
      have hone : ∀ u ∈ [Value.slice pa L.length pcap], u.oneCell' = true := fun u hu => by
        have : u = .slice pa L.length pcap := by simpa using hu
        subst this; rfl
      have hbase : w2.heap.size ≤ (w6.alloc (.cells #[.slice pa L.length pcap] 26)).heap.size := by have := hb6.size; simp; omega
      have hmax : LB.length + 1 ≤ maxLen := by unfold maxLen; omega
      clear hP hElt hnew hOw hR6 hb6 hout hop hcp hR
      go_wp2_with (at_builtin; refine wpList_append_lies _ rfl (.tmp 19) (.tmp 22) 23 rfl w2.heap.size 26 tI _ 1 24 Try.underlying23 hi0 hz0 hz1 hz2 rfl (by omega) _ LB.length LB rfl hO7 ⟨w6.heap.size, 0, none⟩ 1 1 [.slice pa L.length pcap] rfl rfl hnews hone (by omega) hmax (by omega) hbase _ rfl ?_; intro g0 cap0 w7 hown1 hgrow hat hlt1)
      have HO8 := Hid.mk' hown1
      have HR8 := Hid.mk' (HR7.out.grown hgrow (fun kk hkk => by have := HLt.out kk hkk; omega))
      have HB8 := Hid.mk' (HB7.out.grown hgrow HLt.out)
      have HE8 : Hid (∀ e ∈ LB ++ [.slice pa L.length pcap], El w7 w2.heap.size (some g0) e) := fun e he => (HE7.out e he).grown hgrow hat (Nat.le_refl _)
      clear hown1 hgrow hat hlt1
      go_roundw
      case rel => exact ⟨LB.length + 1, LB ++ [.slice pa L.length pcap], q6, by omega, by go_num, by simp, by rw [List.length_append]; exact HO8.out, HE8.out, by omega, HR8.out, HB8.out⟩
      case measure => simp [intOf]; omega
    · have hil : ¬ (LB.length : Int) < (LA.length : Int) := by omega
      have HO := Hid.mk' ho
      have HE := Hid.mk' hE
      have HB := Hid.mk' hb
      clear ho hE hb
      go_wp2_with fail
      refine (pick_any wr _ q 12 hR (by omega) (by omega) (by omega)).mono ?_
      rintro e w5 ⟨x, rfl, x0, x1, hk⟩
      have HB5 := Hid.mk' (HB.out.trans hk.beside)
      have HO5 := Hid.mk' (owns_beside HO.out hk.beside (by omega))
      have HE5 : Hid (∀ e ∈ LB, El w5 w2.heap.size u6.ownBlock e) := fun e he => (HE.out e he).beside hk.beside (by omega)
      have hs5 : w2.heap.size ≤ w5.heap.size := HB5.out.size
      have HOA5 := Hid.mk' (owns_beside HOA.out HB5.out (by omega))
      have HEA5 : Hid (∀ e ∈ LA, El w5 w1.heap.size (Value.slice aa LA.length ca).ownBlock e) := fun e he => (HEA.out e he).beside HB5.out (by omega)
      have HBel := Hid.mk' (HB5.out.below HB2.out (Nat.le_refl _) (by omega))
      clear hk HO HE HB hR HOA HEA
      by_cases hx : x = 0
      · subst hx
        have hElt : ∀ kk, u6.ownBlock = some kk → kk < w5.heap.size := fun kk hkk => (HO5.out.lt kk hkk).2
        have HLt : Hid (∀ kk, u6.ownBlock = some kk → w2.heap.size ≤ kk) := fun kk hkk => (HO5.out.lt kk hkk).1
        have b1' := bel_one w5 (.cells #[] 38)
        have b2' := bel_one (w5.alloc (.cells #[] 38)) (.cells #[.slice (some ⟨w5.heap.size, 0, none⟩) 0 0] 26)
        have hb12 := bel_next b1' b2'
        have hP : El (w5.alloc (.cells #[] 38)) w2.heap.size u6.ownBlock (.slice (some ⟨w5.heap.size, 0, none⟩) 0 0) := ⟨_, 0, 0, fun _ => ⟨0, ⟨0, 0, 0, 0⟩⟩, rfl, ⟨Nat.le_refl _, by omega, .inl rfl⟩, by omega, .inl rfl⟩
        have HE7 : Hid (∀ e ∈ LB ++ [.slice (some ⟨w5.heap.size, 0, none⟩) 0 0], El ((w5.alloc (.cells #[] 38)).alloc (.cells #[.slice (some ⟨w5.heap.size, 0, none⟩) 0 0] 26)) w2.heap.size u6.ownBlock e) := fun e he => by
          rcases List.mem_append.1 he with h | h
          · exact (HE5.out e h).below hb12
          · have : e = .slice (some ⟨w5.heap.size, 0, none⟩) 0 0 := by simpa using h
            subst this
            exact hP.below b2'
        have hO7 := (HO5.out.alloc (.cells #[] 38)).alloc (.cells #[.slice (some ⟨w5.heap.size, 0, none⟩) 0 0] 26)
        have HB7 := Hid.mk' (bel_next HBel.out hb12)
        have hnew := heap_alloc_new (w5.alloc (.cells #[] 38)) (.cells #[.slice (some ⟨w5.heap.size, 0, none⟩) 0 0] 26)
        rw [World.size_alloc] at hnew
        have hnews : ∀ jj u, [Value.slice (some ⟨w5.heap.size, 0, none⟩) 0 0][jj]? = some u → ((w5.alloc (.cells #[] 38)).alloc (.cells #[.slice (some ⟨w5.heap.size, 0, none⟩) 0 0] 26)).cell? ((⟨w5.heap.size + 1, 0, none⟩ : Addr).add jj) = some u := World.news_of_block hnew
        have hone : ∀ u ∈ [Value.slice (some ⟨w5.heap.size, 0, none⟩) 0 0], u.oneCell' = true := fun u hu => by
          have : u = .slice (some ⟨w5.heap.size, 0, none⟩) 0 0 := by simpa using hu
          subst this; rfl
        have hbase : w2.heap.size ≤ ((w5.alloc (.cells #[] 38)).alloc (.cells #[.slice (some ⟨w5.heap.size, 0, none⟩) 0 0] 26)).heap.size := by simp; omega
        have hmax : LB.length + 1 ≤ maxLen := by unfold maxLen; omega
        obtain ⟨aa', ca', ada', lna', cpa', fa', hva, hra⟩ := rds_owns HOA5.out HEA5.out (by omega)
        cases hva
        have hElA : ∀ kk, (Value.slice aa LA.length ca).ownBlock = some kk → kk < w2.heap.size := fun kk hkk => HKA.out kk hkk
        have RA7 := Hid.mk' (hra.below hb12)
        have HOA7 := Hid.mk' ((HOA5.out.alloc (.cells #[] 38)).alloc (.cells #[.slice (some ⟨w5.heap.size, 0, none⟩) 0 0] 26))
        have HEA7 : Hid (∀ e ∈ LA, El ((w5.alloc (.cells #[] 38)).alloc (.cells #[.slice (some ⟨w5.heap.size, 0, none⟩) 0 0] 26)) w1.heap.size u6.ownBlock e) := fun e he => by
          obtain ⟨a, n, c, f, rfl, hr, hn, hx⟩ := (HEA5.out e he).below hb12
          refine ⟨a, n, c, f, rfl, hr, hn, ?_⟩
          obtain ⟨a2, n2, c2, f2, e2, hr2, _, hx2⟩ := HEL.out _ he
          cases e2
          rcases hx2 with h0 | ⟨b, off, rfl, hlo, _⟩
          · exact .inl h0
          · by_cases h0 : n = 0
            · exact .inl h0
            · refine .inr ⟨b, off, rfl, hlo, fun ee => ?_⟩
              have h1 := HLt.out b ee.symm
              have h2 : b < w2.heap.size := by
                rcases hr2.2.2 with h3 | ⟨b', off', e3, hl3, _⟩
                · exact absurd h3 h0
                · cases e3; exact hl3
              omega
        clear hP hElt hnew hra b1' b2' hb12
        go_wp2_with (at_builtin; refine wpList_append_lies _ rfl (.tmp 27) (.tmp 29) 23 rfl w2.heap.size 26 tI _ 1 24 Try.underlying23 hi0 hz0 hz1 hz2 rfl (by omega) _ LB.length LB rfl hO7 ⟨w5.heap.size + 1, 0, none⟩ 1 1 [.slice (some ⟨w5.heap.size, 0, none⟩) 0 0] rfl rfl hnews hone (by omega) hmax (by omega) hbase _ rfl ?_; intro g0 cap0 w7 hown1 hgrow hat hlt1)
        have HB8 := HB7.out.grown hgrow HB7.out.size (fun kk hkk => by have := HLt.out kk hkk; omega)
        have HE8 : ∀ e ∈ LB ++ [.slice (some ⟨w5.heap.size, 0, none⟩) 0 0], El w7 w2.heap.size (some g0) e := fun e he => (HE7.out e he).grown hgrow hat (Nat.le_refl _)
        have hlb : LB.length + 1 = (LB ++ [Value.slice (some ⟨w5.heap.size, 0, none⟩) 0 0]).length := by simp
        rw [hlb] at hown1
        obtain ⟨ab, cb, adb, lnb, cpb, fb, hvb, hrb⟩ := rds_owns hown1 HE8 (by simp; omega)
        have hEA8 : ∀ e ∈ LA, El w7 w1.heap.size (some g0) e := fun e he => (HEA7.out e he).grown hgrow hat (Nat.le_refl _)
        have hOA8 : w7.ownsRow w1.heap.size 26 1 (.slice aa LA.length ca) LA.length LA := owns_grown HOA7.out hgrow (fun kk h1 h2 => by have := hElA kk h1; have := HLt.out kk h2; omega)
        obtain ⟨aa2, ca2, ada2, lna2, cpa2, fa2, hva2, hra2⟩ := rds_owns hOA8 hEA8 (by omega)
        cases hva2
        cases hvb
        clear hgrow hat hlt1 hown1 hOA8 hEA8 HE8
        refine bodyPost_ret (results_tmp2 rfl _ _ _) rfl ?_
        rw [hlb]
        exact ListD2.mk hrb hra2 (by simp; omega) (by omega) HB8
      · have hxb : (x == 0) = false := by simp [hx]
        obtain ⟨ab, cb, adb, lnb, cpb, fb, rfl, hrb⟩ := rds_owns HO5.out HE5.out (by omega)
        obtain ⟨aa', ca', ada', lna', cpa', fa', hva, hra⟩ := rds_owns HOA5.out HEA5.out (by omega)
        cases hva
        have RA := Hid.mk' hra
        have RB := Hid.mk' hrb
        clear hra hrb
        go_wp2
        refine bodyPost_ret (results_tmp2 rfl _ _ _) rfl ?_
        exact ListD2.mk RB.out RA.out (by omega) (by omega) HBel.out
end Go.Proofs.Ytllfgoepfeoclab
