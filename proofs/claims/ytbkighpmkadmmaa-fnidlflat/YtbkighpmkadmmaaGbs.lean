/-
  Two lists of operators are drawn (spec.DrawRedSum).
  A sum of products of two lists: the program.
  A sum of products of two lists: the program's RedSum.
-/
import Derived.Test.YtbkighpmkadmmaaGbq
import Derived.Test.YtbkighpmkadmmaaGbl
import Derived.Test.YtbkighpmkadmmaaGbg
namespace Go.Proofs.Ytbkighpmkadmmaa
open Go.RowKit Go.Deep Go.Joins
set_option linter.unusedVariables false

theorem rds_owns {w : World} {lo lo' : Nat} {g' : Option Nat} {v : Value} {LS : List Value} (h : w.ownsRow lo 29 1 v LS.length LS) (hE : ∀ e ∈ LS, El w lo' g' e) (hl : LS.length ≤ 100) : ∃ a c ad ln cp f, v = .slice a LS.length c ∧ RdS w a LS.length c ad ln cp f := by
  have each : ∀ i, i < LS.length → ∃ t : (Option Addr × Nat × Nat) × (Nat → T), LS[i]? = some (.slice t.1.1 t.1.2.1 t.1.2.2) ∧ Rd w t.1.1 t.1.2.1 t.1.2.2 t.2 := fun i hi => by
    obtain ⟨a, n, c, f, e, hr, _⟩ := hE LS[i] (List.getElem_mem hi)
    exact ⟨((a, n, c), f), by rw [List.getElem?_eq_getElem hi, e], hr⟩
  haveI : Inhabited ((Option Addr × Nat × Nat) × (Nat → T)) := ⟨((none, 0, 0), fun _ => ⟨0, ⟨0, 0, 0, 0⟩⟩)⟩
  obtain ⟨q, hq⟩ := choose_lt each
  rcases h.2 with ⟨hv, h0⟩ | ⟨g, cap, cur, hv, hlo, hg, hn, hm, hs, ht⟩
  · exact ⟨none, 0, fun i => (q i).1.1, fun i => (q i).1.2.1, fun i => (q i).1.2.2, fun i => (q i).2, by rw [hv, h0], by omega, by omega, .inl h0, fun i hi => (hq i hi).2⟩
  · have hat : ∀ j, j < LS.length * 1 → cur[j]? = LS[j]? := by
      intro j hj
      have e : (cur.toList.take (LS.length * 1))[j]? = LS[j]? := by rw [ht]
      rw [List.getElem?_take_of_lt hj] at e
      simpa using e
    have hrow : w.rowIs g 29 (cap * 1) (fun j => cur.getD j undef) := ⟨cur, hg, hs, fun j hj => by
      have hjs : j < cur.size := by omega
      show cur[j]? = some (cur.getD j undef)
      rw [Array.getD_eq_getD_getElem?, Array.getElem?_eq_getElem hjs]
      rfl⟩
    refine ⟨some ⟨g, 0, none⟩, cap, fun i => (q i).1.1, fun i => (q i).1.2.1, fun i => (q i).1.2.2, fun i => (q i).2, hv, hn, by omega, .inr ⟨g, 0, rfl, hrow.lt, fun i hi => ?_⟩, fun i hi => (hq i hi).2⟩
    rw [Nat.zero_add, hrow.cell (by omega), Array.getD_eq_getD_getElem?, hat i (by omega), (hq i hi).1]
    rfl
theorem owns_grown {w w' : World} {base : Nat} {e : TypeId} {size : Nat} {v : Value} {n : Nat} {xs : List Value} {row : Option Nat} (h : w.ownsRow base e size v n xs) (hg : w.grownBy w' row) (hne : ∀ kk, v.ownBlock = some kk → row = some kk → False) : w'.ownsRow base e size v n xs := by
  refine ⟨h.1, h.2.imp id ?_⟩
  rintro ⟨g, cap, cur, hv, hlo, hgg, hn, hm, hs, ht⟩
  refine ⟨g, cap, cur, hv, hlo, ?_, hn, hm, hs, ht⟩
  have hlt : g < w.heap.size := (Array.getElem?_eq_some_iff.1 hgg).1
  exact (hg.block g hlt (fun ee => hne g (by rw [hv]; rfl) ee.symm)).trans hgg
def ListD2 (w : World) (e : Ending) (w' : World) : Prop := ∃ (a1 : Option Addr) (n1 c1 : Nat) (ad1 : Nat → Option Addr) (ln1 cp1 : Nat → Nat) (f1 : Nat → Nat → T) (a2 : Option Addr) (n2 c2 : Nat) (ad2 : Nat → Option Addr) (ln2 cp2 : Nat → Nat) (f2 : Nat → Nat → T), e = .returned (.tuple #[.slice a1 n1 c1, .slice a2 n2 c2]) ∧ RdS w' a1 n1 c1 ad1 ln1 cp1 f1 ∧ RdS w' a2 n2 c2 ad2 ln2 cp2 f2 ∧ n1 ≤ 6 ∧ n2 ≤ 5 ∧ Below w.heap.size w w'
theorem ListD2.mk {w w' : World} {a1 : Option Addr} {n1 c1 : Nat} {ad1 : Nat → Option Addr} {ln1 cp1 : Nat → Nat} {f1 : Nat → Nat → T} {a2 : Option Addr} {n2 c2 : Nat} {ad2 : Nat → Option Addr} {ln2 cp2 : Nat → Nat} {f2 : Nat → Nat → T} (h1 : RdS w' a1 n1 c1 ad1 ln1 cp1 f1) (h2 : RdS w' a2 n2 c2 ad2 ln2 cp2 f2) (l1 : n1 ≤ 6) (l2 : n2 ≤ 5) (h3 : Below w.heap.size w w') : ListD2 w (.returned (.tuple #[.slice a1 n1 c1, .slice a2 n2 c2])) w' := ⟨a1, n1, c1, ad1, ln1, cp1, f1, a2, n2, c2, ad2, ln2, cp2, f2, rfl, h1, h2, l1, l2, h3⟩
set_option maxRecDepth 100000 in
set_option maxHeartbeats 4000000 in
theorem drawRedSum (w : World) (a : Option Addr) (len cap : Nat) (h : Src w a len cap) :
    Calls Try.prog 26 #[.slice a len cap] w (ListD2 w) := by
  obtain ⟨tI, hi0, hz0, hz1, hz2⟩ := info_parts infoTS
  go_enter Try.func26, Try.ntmps26
  go_wp2_with fail
  refine (open_any _ _ _ _ h).mono ?_
  rintro e w1 ⟨rfl, hR1, b1⟩
  have hl1 := hR1.lt
  clear h
  go_wp2_with fail
  refine (list_any w1 _ _ 3 24 hR1 (by omega) (by omega) (by omega) (by omega) (by omega)).mono ?_
  rintro e w2 ⟨va, LA, q0, rfl, ho, hlen, hE, hq, hR2, s2⟩
  have b2 := s2.below b1 (Nat.le_refl _) (by omega)
  have hs2 := s2.size
  obtain ⟨aa, ca, ada, lna, cpa, fa, rfl, hra⟩ := rds_owns ho hE (by omega)
  have HOA := Hid.mk' ho
  have HEA := Hid.mk' hE
  have HR2 := Hid.mk' (hR2.alloc (.cells #[] 29))
  have HB2 := Hid.mk' b2
  have HS2 := Hid.mk' ((Beside.refl w.heap.size w2).alloc (.cells #[] 29))
  have HO2 : Hid ((w2.alloc (.cells #[] 29)).ownsRow w2.heap.size 29 1 (.slice (some ⟨w2.heap.size, 0, none⟩) 0 0) 0 []) := World.ownsRow_lit _ _ _ (Nat.le_refl _) (Nat.zero_le _) rfl
  have HKA : Hid (∀ kk, (Value.slice aa LA.length ca).ownBlock = some kk → kk < w2.heap.size) := fun kk hkk => (ho.lt kk hkk).2
  have HEL := Hid.mk' hE
  clear hR1 s2 b1 ho hE hR2 b2 hra
  go_wp2
  generalize (w2.alloc (.cells #[] 29)) = w3 at *
  go_loopw [6, 7] (fun vb ii wr => ∃ (i : Nat) (LB : List Value) (q : Nat), i ≤ LA.length ∧ ii = .int .i64 (i : Int) ∧ LB.length = i ∧ wr.ownsRow w2.heap.size 29 1 vb LB.length LB ∧ (∀ e ∈ LB, El wr w2.heap.size vb.ownBlock e) ∧ q ≤ q0 + 95 * i ∧ Rdr wr w.heap.size q ∧ Beside w.heap.size w2 wr) (fun _ ii _ => LA.length - (intOf ii).toNat)
  case atStart => exact ⟨0, [], q0, Nat.zero_le _, rfl, rfl, HO2.out, (fun e he => absurd he List.not_mem_nil), by omega, HR2.out, HS2.out⟩
  case round =>
    obtain ⟨i, LB, q, hi, rfl, hLB, ho, hE, hqq, hR, hb⟩ := hrel
    subst hLB
    have hbs := hb.size
    by_cases hlt : LB.length < LA.length
    · have hil : (LB.length : Int) < (LA.length : Int) := by omega
      have HO := Hid.mk' ho
      have HE := Hid.mk' hE
      have HB := Hid.mk' hb
      clear ho hE hb
      go_wp2_with fail
      refine (pol_any wr _ q 3 hR (by omega) (by omega) (by omega)).mono ?_
      rintro e w6 ⟨vp, L, q6, rfl, hop, hlp, hcp, hq6, hR6, hb6⟩
      obtain ⟨pa, pcap, rfl, hout⟩ := out_of_owns hop (by omega)
      have hOw := owns_beside HO.out hb6 (by omega)
      have hElt : ∀ kk, u6.ownBlock = some kk → kk < wr.heap.size := fun kk hkk => (HO.out.lt kk hkk).2
      have hP : El w6 w2.heap.size u6.ownBlock (.slice pa L.length pcap) := ⟨pa, L.length, pcap, lf L, rfl, hout.1, by omega, hout.2.2.imp id fun ⟨b, off, e, hlo⟩ => ⟨b, off, e, by omega, fun ee => by have := hElt b ee.symm; omega⟩⟩
      have hnew := heap_alloc_new w6 (.cells #[.slice pa L.length pcap] 29)
      have hO7 := hOw.alloc (.cells #[.slice pa L.length pcap] 29)
      have HE7 : Hid (∀ e ∈ LB ++ [.slice pa L.length pcap], El (w6.alloc (.cells #[.slice pa L.length pcap] 29)) w2.heap.size u6.ownBlock e) := fun e he => by
        rcases List.mem_append.1 he with h | h
        · exact ((HE.out e h).beside hb6 (by omega)).below (bel_one _ _)
        · have : e = .slice pa L.length pcap := by simpa using h
          subst this
          exact hP.below (bel_one _ _)
      have HR7 := Hid.mk' (hR6.alloc (.cells #[.slice pa L.length pcap] 29))
      have HB7 := Hid.mk' ((HB.out.trans hb6).alloc (.cells #[.slice pa L.length pcap] 29))
      have HLt : Hid (∀ kk, u6.ownBlock = some kk → w2.heap.size ≤ kk) := fun kk hkk => (HO.out.lt kk hkk).1
      have hnews : ∀ jj u, [Value.slice pa L.length pcap][jj]? = some u → (w6.alloc (.cells #[.slice pa L.length pcap] 29)).cell? ((⟨w6.heap.size, 0, none⟩ : Addr).add jj) = some u := World.news_of_block hnew
      have hone : ∀ u ∈ [Value.slice pa L.length pcap], u.oneCell' = true := fun u hu => by
        have : u = .slice pa L.length pcap := by simpa using hu
        subst this; rfl
      have hbase : w2.heap.size ≤ (w6.alloc (.cells #[.slice pa L.length pcap] 29)).heap.size := by have := hb6.size; simp; omega
      have hmax : LB.length + 1 ≤ maxLen := by unfold maxLen; omega
      clear hP hElt hnew hOw hR6 hb6 hout hop hcp hR
      go_wp2_with (at_builtin; refine wpList_append_lies _ rfl (.tmp 19) (.tmp 22) 23 rfl w2.heap.size 29 tI _ 1 24 Try.underlying23 hi0 hz0 hz1 hz2 rfl (by omega) _ LB.length LB rfl hO7 ⟨w6.heap.size, 0, none⟩ 1 1 [.slice pa L.length pcap] rfl rfl hnews hone (by omega) hmax (by omega) hbase _ rfl ?_; intro g0 cap0 w7 hown1 hgrow hat hlt1)
      have HO8 := Hid.mk' hown1
      have HR8 := Hid.mk' (HR7.out.grown hgrow (fun kk hkk => by have := HLt.out kk hkk; omega))
      have HB8 := Hid.mk' (HB7.out.grown hgrow HLt.out)
      have HE8 : Hid (∀ e ∈ LB ++ [.slice pa L.length pcap], El w7 w2.heap.size (some g0) e) := fun e he => (HE7.out e he).grown hgrow hat (Nat.le_refl _)
      clear hown1 hgrow hat hlt1
      go_roundw
      case rel => exact ⟨LB.length + 1, LB ++ [.slice pa L.length pcap], q6, by omega, by go_num, by simp, by rw [List.length_append]; exact HO8.out, HE8.out, by omega, HR8.out, HB8.out⟩
      case measure => simp [intOf]; omega
    · have hil : ¬ (LB.length : Int) < (LA.length : Int) := by omega
      have HO := Hid.mk' ho
      have HE := Hid.mk' hE
      have HB := Hid.mk' hb
      clear ho hE hb
      go_wp2_with fail
      refine (pick_any wr _ q 12 hR (by omega) (by omega) (by omega)).mono ?_
      rintro e w5 ⟨x, rfl, x0, x1, hk⟩
      have HB5 := Hid.mk' (HB.out.trans hk.beside)
      have HO5 := Hid.mk' (owns_beside HO.out hk.beside (by omega))
      have HE5 : Hid (∀ e ∈ LB, El w5 w2.heap.size u6.ownBlock e) := fun e he => (HE.out e he).beside hk.beside (by omega)
      have hs5 : w2.heap.size ≤ w5.heap.size := HB5.out.size
      have HOA5 := Hid.mk' (owns_beside HOA.out HB5.out (by omega))
      have HEA5 : Hid (∀ e ∈ LA, El w5 w1.heap.size (Value.slice aa LA.length ca).ownBlock e) := fun e he => (HEA.out e he).beside HB5.out (by omega)
      have HBel := Hid.mk' (HB5.out.below HB2.out (Nat.le_refl _) (by omega))
      clear hk HO HE HB hR HOA HEA
      by_cases hx : x = 0
      · subst hx
        have hElt : ∀ kk, u6.ownBlock = some kk → kk < w5.heap.size := fun kk hkk => (HO5.out.lt kk hkk).2
        have HLt : Hid (∀ kk, u6.ownBlock = some kk → w2.heap.size ≤ kk) := fun kk hkk => (HO5.out.lt kk hkk).1
        have b1' := bel_one w5 (.cells #[] 33)
        have b2' := bel_one (w5.alloc (.cells #[] 33)) (.cells #[.slice (some ⟨w5.heap.size, 0, none⟩) 0 0] 29)
        have hb12 := bel_next b1' b2'
        have hP : El (w5.alloc (.cells #[] 33)) w2.heap.size u6.ownBlock (.slice (some ⟨w5.heap.size, 0, none⟩) 0 0) := ⟨_, 0, 0, fun _ => ⟨0, ⟨0, 0, 0, 0⟩⟩, rfl, ⟨Nat.le_refl _, by omega, .inl rfl⟩, by omega, .inl rfl⟩
        have HE7 : Hid (∀ e ∈ LB ++ [.slice (some ⟨w5.heap.size, 0, none⟩) 0 0], El ((w5.alloc (.cells #[] 33)).alloc (.cells #[.slice (some ⟨w5.heap.size, 0, none⟩) 0 0] 29)) w2.heap.size u6.ownBlock e) := fun e he => by
          rcases List.mem_append.1 he with h | h
          · exact (HE5.out e h).below hb12
          · have : e = .slice (some ⟨w5.heap.size, 0, none⟩) 0 0 := by simpa using h
            subst this
            exact hP.below b2'
        have hO7 := (HO5.out.alloc (.cells #[] 33)).alloc (.cells #[.slice (some ⟨w5.heap.size, 0, none⟩) 0 0] 29)
        have HB7 := Hid.mk' (bel_next HBel.out hb12)
        have hnew := heap_alloc_new (w5.alloc (.cells #[] 33)) (.cells #[.slice (some ⟨w5.heap.size, 0, none⟩) 0 0] 29)
        rw [World.size_alloc] at hnew
        have hnews : ∀ jj u, [Value.slice (some ⟨w5.heap.size, 0, none⟩) 0 0][jj]? = some u → ((w5.alloc (.cells #[] 33)).alloc (.cells #[.slice (some ⟨w5.heap.size, 0, none⟩) 0 0] 29)).cell? ((⟨w5.heap.size + 1, 0, none⟩ : Addr).add jj) = some u := World.news_of_block hnew
        have hone : ∀ u ∈ [Value.slice (some ⟨w5.heap.size, 0, none⟩) 0 0], u.oneCell' = true := fun u hu => by
          have : u = .slice (some ⟨w5.heap.size, 0, none⟩) 0 0 := by simpa using hu
          subst this; rfl
        have hbase : w2.heap.size ≤ ((w5.alloc (.cells #[] 33)).alloc (.cells #[.slice (some ⟨w5.heap.size, 0, none⟩) 0 0] 29)).heap.size := by simp; omega
        have hmax : LB.length + 1 ≤ maxLen := by unfold maxLen; omega
        obtain ⟨aa', ca', ada', lna', cpa', fa', hva, hra⟩ := rds_owns HOA5.out HEA5.out (by omega)
        cases hva
        have hElA : ∀ kk, (Value.slice aa LA.length ca).ownBlock = some kk → kk < w2.heap.size := fun kk hkk => HKA.out kk hkk
        have RA7 := Hid.mk' (hra.below hb12)
        have HOA7 := Hid.mk' ((HOA5.out.alloc (.cells #[] 33)).alloc (.cells #[.slice (some ⟨w5.heap.size, 0, none⟩) 0 0] 29))
        have HEA7 : Hid (∀ e ∈ LA, El ((w5.alloc (.cells #[] 33)).alloc (.cells #[.slice (some ⟨w5.heap.size, 0, none⟩) 0 0] 29)) w1.heap.size u6.ownBlock e) := fun e he => by
          obtain ⟨a, n, c, f, rfl, hr, hn, hx⟩ := (HEA5.out e he).below hb12
          refine ⟨a, n, c, f, rfl, hr, hn, ?_⟩
          obtain ⟨a2, n2, c2, f2, e2, hr2, _, hx2⟩ := HEL.out _ he
          cases e2
          rcases hx2 with h0 | ⟨b, off, rfl, hlo, _⟩
          · exact .inl h0
          · by_cases h0 : n = 0
            · exact .inl h0
            · refine .inr ⟨b, off, rfl, hlo, fun ee => ?_⟩
              have h1 := HLt.out b ee.symm
              have h2 : b < w2.heap.size := by
                rcases hr2.2.2 with h3 | ⟨b', off', e3, hl3, _⟩
                · exact absurd h3 h0
                · cases e3; exact hl3
              omega
        clear hP hElt hnew hra b1' b2' hb12
        go_wp2_with (at_builtin; refine wpList_append_lies _ rfl (.tmp 27) (.tmp 29) 23 rfl w2.heap.size 29 tI _ 1 24 Try.underlying23 hi0 hz0 hz1 hz2 rfl (by omega) _ LB.length LB rfl hO7 ⟨w5.heap.size + 1, 0, none⟩ 1 1 [.slice (some ⟨w5.heap.size, 0, none⟩) 0 0] rfl rfl hnews hone (by omega) hmax (by omega) hbase _ rfl ?_; intro g0 cap0 w7 hown1 hgrow hat hlt1)
        have HB8 := HB7.out.grown hgrow HB7.out.size (fun kk hkk => by have := HLt.out kk hkk; omega)
        have HE8 : ∀ e ∈ LB ++ [.slice (some ⟨w5.heap.size, 0, none⟩) 0 0], El w7 w2.heap.size (some g0) e := fun e he => (HE7.out e he).grown hgrow hat (Nat.le_refl _)
        have hlb : LB.length + 1 = (LB ++ [Value.slice (some ⟨w5.heap.size, 0, none⟩) 0 0]).length := by simp
        rw [hlb] at hown1
        obtain ⟨ab, cb, adb, lnb, cpb, fb, hvb, hrb⟩ := rds_owns hown1 HE8 (by simp; omega)
        have hEA8 : ∀ e ∈ LA, El w7 w1.heap.size (some g0) e := fun e he => (HEA7.out e he).grown hgrow hat (Nat.le_refl _)
        have hOA8 : w7.ownsRow w1.heap.size 29 1 (.slice aa LA.length ca) LA.length LA := owns_grown HOA7.out hgrow (fun kk h1 h2 => by have := hElA kk h1; have := HLt.out kk h2; omega)
        obtain ⟨aa2, ca2, ada2, lna2, cpa2, fa2, hva2, hra2⟩ := rds_owns hOA8 hEA8 (by omega)
        cases hva2
        cases hvb
        clear hgrow hat hlt1 hown1 hOA8 hEA8 HE8
        refine bodyPost_ret (results_tmp2 rfl _ _ _) rfl ?_
        rw [hlb]
        exact ListD2.mk hrb hra2 (by simp; omega) (by omega) HB8
      · have hxb : (x == 0) = false := by simp [hx]
        obtain ⟨ab, cb, adb, lnb, cpb, fb, rfl, hrb⟩ := rds_owns HO5.out HE5.out (by omega)
        obtain ⟨aa', ca', ada', lna', cpa', fa', hva, hra⟩ := rds_owns HOA5.out HEA5.out (by omega)
        cases hva
        have RA := Hid.mk' hra
        have RB := Hid.mk' hrb
        clear hra hrb
        go_wp2
        refine bodyPost_ret (results_tmp2 rfl _ _ _) rfl ?_
        exact ListD2.mk RB.out RA.out (by omega) (by omega) HBel.out
end Go.Proofs.Ytbkighpmkadmmaa
namespace Go.Proofs.Ytbkighpmkadmmaa
open Go.RowKit Go.Deep Go.Joins
set_option linter.unusedVariables false

theorem Wr.set {w : World} {a : Option Addr} {n : Nat} {f : Nat → T} {lo B o : Nat} {v : Value} (h : Wr w a n f) (hf : n = 0 ∨ ∃ g off, a = some ⟨g, off, none⟩ ∧ lo ≤ g) (hB : B < lo) : Wr (w.setCell ⟨B, o, none⟩ v) a n f := by
  rcases h with h0 | ⟨g, off, N, F, rfl, hR, hN, hF⟩
  · exact .inl h0
  · rcases hf with h0 | ⟨g', off', he, hlo⟩
    · exact .inl h0
    · cases he
      have hne : g ≠ B := by omega
      exact .inr ⟨g, off, N, F, rfl, hR.of_block (Below.heap_setCell _ _ _ _ hne), hN, hF⟩
theorem rd_setOther {w : World} {a : Option Addr} {n cap g o : Nat} {f : Nat → T} {v : Value} (h : Rd w a n cap f) (hne : n = 0 ∨ ∀ b off, a = some ⟨b, off, none⟩ → b ≠ g) : Rd (w.setCell ⟨g, o, none⟩ v) a n cap f :=
  h.grown (row := some g) ⟨rfl, rfl, rfl, by simp [World.setCell], fun k _ hk => Below.heap_setCell _ _ _ _ (fun e => hk (by rw [e]))⟩ (hne.imp id (fun k b off he hb => k b off he (by cases hb; rfl)))
theorem Out.set {lo : Nat} {w : World} {a : Option Addr} {cap : Nat} {L : List T} {B o : Nat} {v : Value} (h : Out lo w a cap L) (hB : B < lo) : Out lo (w.setCell ⟨B, o, none⟩ v) a cap L :=
  ⟨rd_setOther h.1 (h.2.2.imp id (fun ⟨g, off, he, hlo⟩ b off' hb => by rw [he] at hb; cases hb; omega)), h.2.1.set h.2.2 hB, h.2.2⟩
theorem Out.nil (lo : Nat) (w : World) : Out lo w none 0 [] := ⟨⟨Nat.le_refl _, by simp, .inl rfl⟩, .inl rfl, .inl rfl⟩
theorem Out.low {lo lo' : Nat} {w : World} {a : Option Addr} {cap : Nat} {L : List T} (h : Out lo w a cap L) (hl : lo' ≤ lo) : Out lo' w a cap L := ⟨h.1, h.2.1, h.2.2.imp id (fun ⟨g, off, he, hlo⟩ => ⟨g, off, he, Nat.le_trans hl hlo⟩)⟩
/-- what holds in a round: the sum's cell, the list's cell, and its operator's. -/
abbrev C3 (bs : Nat) (vs : Value) (B1 : Nat) (v1 : Value) (b2 o2 : Nat) (v2 : Value) (u : World) : Prop := u.cell? ⟨bs, 0, none⟩ = some vs ∧ u.cell? ⟨B1, 0, none⟩ = some v1 ∧ u.cell? ⟨b2, o2, none⟩ = some v2
theorem C3.below {bs B1 b2 o2 : Nat} {vs v1 v2 : Value} {u u' : World} (h : C3 bs vs B1 v1 b2 o2 v2 u) (hb : Below u.heap.size u u') : C3 bs vs B1 v1 b2 o2 v2 u' :=
  ⟨(hb.cell (p := ⟨bs, 0, none⟩) (World.block_lt_of_cell? u _ h.1)).trans h.1, (hb.cell (p := ⟨B1, 0, none⟩) (World.block_lt_of_cell? u _ h.2.1)).trans h.2.1, (hb.cell (p := ⟨b2, o2, none⟩) (World.block_lt_of_cell? u _ h.2.2)).trans h.2.2⟩
theorem C2.set {b1 o1 b2 o2 : Nat} {v1 v2 : Value} {u : World} {B : Nat} {v : Value} (h : C2 b1 o1 v1 b2 o2 v2 u) (h1 : b1 ≠ B) (h2 : b2 ≠ B) : C2 b1 o1 v1 b2 o2 v2 (u.setCell ⟨B, 0, none⟩ v) :=
  ⟨(World.cell?_of_block (w := u) (a := ⟨b1, o1, none⟩) (Below.heap_setCell _ _ _ _ h1)).trans h.1, (World.cell?_of_block (w := u) (a := ⟨b2, o2, none⟩) (Below.heap_setCell _ _ _ _ h2)).trans h.2⟩
def SumPost (w0 : World) (S : Option (List T)) (r : Ending) (w' : World) : Prop :=
  Below w0.heap.size w0 w' ∧ ((∃ K a c, S = some K ∧ okL K = true ∧ r = .returned (.tuple #[]) ∧ w'.cell? ⟨w0.heap.size, 0, none⟩ = some (.slice a K.length c) ∧ Out (w0.heap.size + 1) w' a c K) ∨ (S = none ∧ r = .panicked [{ v := tooMuch, recovered := false }]))
theorem SumPost.no {w0 : World} {S : Option (List T)} {w' : World} (hb : Below w0.heap.size w0 w') (h : S = none) : SumPost w0 S (.panicked [{ v := tooMuch, recovered := false }]) w' := ⟨hb, .inr ⟨h, rfl⟩⟩
theorem SumPost.yes {w0 : World} {S : Option (List T)} {w' : World} {K : List T} {a : Option Addr} {c : Nat} (hb : Below w0.heap.size w0 w') (h : S = some K) (hk : okL K = true) (hc : w'.cell? ⟨w0.heap.size, 0, none⟩ = some (.slice a K.length c)) (ho : Out (w0.heap.size + 1) w' a c K) : SumPost w0 S (.returned (.tuple #[])) w' := ⟨hb, .inl ⟨K, a, c, h, hk, rfl, hc, ho⟩⟩
set_option maxRecDepth 100000 in
set_option maxHeartbeats 8000000 in
theorem sum1I (w0 W : World) (B0 B1 : Nat) (n : Nat) (a1 : Option Addr) (c1 : Nat) (ad1 : Nat → Option Addr) (ln1 cp1 : Nat → Nat) (f1 : Nat → Nat → T) (h1 : RdS w0 a1 n c1 ad1 ln1 cp1 f1) (a2 : Option Addr) (c2 : Nat) (ad2 : Nat → Option Addr) (ln2 cp2 : Nat → Nat) (f2 : Nat → Nat → T) (h2 : RdS w0 a2 n c2 ad2 ln2 cp2 f2)
    (k0 : w0.cell? ⟨B0, 0, none⟩ = some (.slice a1 n c1)) (k1 : w0.cell? ⟨B1, 0, none⟩ = some (.slice a2 n c2)) (hb : Below w0.heap.size w0 W) (hs : W.cell? ⟨w0.heap.size, 0, none⟩ = some (.slice none 0 0)) (hf : W.frozen? ⟨w0.heap.size, 0, none⟩ = false) :
    Calls Try.prog 63 #[.pointer (some ⟨B0, 0, none⟩), .pointer (some ⟨w0.heap.size, 0, none⟩), .pointer (some ⟨B1, 0, none⟩)] W fun r w' => SumPost w0 (sumPr ln1 f1 ln2 f2 n) r w' := by
  have qn : (n : Int) ≤ 140737488351232 := by have := h1.2.1; omega
  have H1 := Hid.mk' h1
  have H2 := Hid.mk' h2
  have HB0 := Hid.mk' hb
  have hl0 := World.block_lt_of_cell? w0 _ k0
  have hl1 := World.block_lt_of_cell? w0 _ k1
  have K1 := Hid.mk' k1
  have g0 : W.cell? ⟨B0, 0, none⟩ = some (.slice a1 n c1) := (hb.cell (p := ⟨B0, 0, none⟩) hl0).trans k0
  have HS0 := Hid.mk' hs
  have HF0 := Hid.mk' hf
  have hw1 : w0.heap.size + 1 ≤ W.heap.size := World.block_lt_of_cell? W _ hs
  clear h1 h2 k0 k1 hb hs hf
  go_enter Try.func63, Try.ntmps63
  go_wp2
  clear g0
  go_loopw [7] (fun v wr => ∃ (i : Nat) (K : List T) (a : Option Addr) (c : Nat), i ≤ n ∧ v = .int .i64 (i : Int) ∧ sumPr ln1 f1 ln2 f2 i = some K ∧ okL K = true ∧ Below w0.heap.size w0 wr ∧ wr.cell? ⟨w0.heap.size, 0, none⟩ = some (.slice a K.length c) ∧ wr.frozen? ⟨w0.heap.size, 0, none⟩ = false ∧ Out (w0.heap.size + 1) wr a c K) (fun v _ => n - (intOf v).toNat)
  case atStart => exact ⟨0, [], none, 0, Nat.zero_le _, rfl, rfl, okL_nil, HB0.out, HS0.out, HF0.out, Out.nil _ _⟩
  case round =>
    obtain ⟨i, K, a, c, hi, rfl, hs, hK, hB, hcl, hfz, hout⟩ := hrel
    have HS := Hid.mk' hs
    have HK := Hid.mk' hK
    have HB := Hid.mk' hB
    have HO := Hid.mk' hout
    have HF := Hid.mk' hfz
    have HCL := Hid.mk' hcl
    clear hs hK hout hfz
    by_cases hlt : i < n
    · rcases H1.out.2.2.1 with h0 | ⟨b1, off1, rfl, hb1, hc1⟩
      · omega
      rcases H2.out.2.2.1 with h0 | ⟨b2, off2, rfl, hb2, hc2⟩
      · omega
      have hil : (i : Int) < (n : Int) := by omega
      have g1 : wr.cell? ⟨b1, off1 + i, none⟩ = some (.slice (ad1 i) (ln1 i) (cp1 i)) := (hB.cell (p := ⟨b1, off1 + i, none⟩) hb1).trans (hc1 i hlt)
      have g2 : wr.cell? ⟨b2, off2 + i, none⟩ = some (.slice (ad2 i) (ln2 i) (cp2 i)) := (hB.cell (p := ⟨b2, off2 + i, none⟩) hb2).trans (hc2 i hlt)
      have g3 : wr.cell? ⟨B1, 0, none⟩ = some (.slice (some ⟨b2, off2, none⟩) n c2) := (hB.cell (p := ⟨B1, 0, none⟩) hl1).trans K1.out
      have hS : C3 w0.heap.size (.slice a K.length c) B1 (.slice (some ⟨b2, off2, none⟩) n c2) b2 (off2 + i) (.slice (ad2 i) (ln2 i) (cp2 i)) wr.drew := ⟨hcl, g3, g2⟩
      have R1 := Hid.mk' (((H1.out.2.2.2 i hlt).below hB).below (Below.refl _ _).drew)
      have R2 := Hid.mk' (((H2.out.2.2.2 i hlt).below hB).below (Below.refl _ _).drew)
      have HBD := Hid.mk' hB.drew
      have HOD := Hid.mk' (HO.out.below (Below.refl _ _).drew)
      have hmul := wylMulI wr.drew (ad1 i) (ad2 i) (ln1 i) (cp1 i) (ln2 i) (cp2 i) (f1 i) (f2 i) R1.out R2.out
      have HZ : Hid (∀ u v : World, Below wr.drew.heap.size wr.drew u → Below u.heap.size u v → v.frozen? ⟨w0.heap.size, 0, none⟩ = false) := fun u v q1 q2 => (q2.frozen (p := ⟨w0.heap.size, 0, none⟩) (World.block_lt_of_cell? u _ ((hS.below q1).1))).trans ((q1.frozen (p := ⟨w0.heap.size, 0, none⟩) (World.block_lt_of_cell? wr.drew _ hS.1)).trans HF.out)
      clear hc1 hc2 hB
      have hcs : (wylMul (f1 i) (ln1 i) (f2 i) (ln2 i) = ([], false) ∧ stepS K (f1 i) (ln1 i) (f2 i) (ln2 i) = none) ∨ (∃ P, wylMul (f1 i) (ln1 i) (f2 i) (ln2 i) = (P, true) ∧ addV K P = ([], false) ∧ stepS K (f1 i) (ln1 i) (f2 i) (ln2 i) = none) ∨ (∃ P, wylMul (f1 i) (ln1 i) (f2 i) (ln2 i) = (P, true) ∧ addV K P = (addL K P, true) ∧ stepS K (f1 i) (ln1 i) (f2 i) (ln2 i) = some (addL K P) ∧ okL (addL K P) = true) := by
        rcases step_cases HK.out (f1 i) (ln1 i) (f2 i) (ln2 i) with ⟨hp, hw, hst⟩ | ⟨p1, p2, hm, hw, hst⟩ | ⟨P, p1, p2, hm, hw, hP, hl, ha, hst⟩ | ⟨P, p1, p2, hm, hw, hP, hl, ha, hst, hok⟩
        · exact .inl ⟨hw, hst⟩
        · exact .inl ⟨hw, hst⟩
        · exact .inr (.inl ⟨P, hw, ha, hst⟩)
        · exact .inr (.inr ⟨P, hw, ha, hst, hok⟩)
      have HNO : Hid (stepS K (f1 i) (ln1 i) (f2 i) (ln2 i) = none → sumPr ln1 f1 ln2 f2 n = none) := fun hst => by
        have := sumPr_none ((sumPr_step HS.out).trans hst) (n - (i + 1))
        rw [show i + 1 + (n - (i + 1)) = n by omega] at this
        exact this
      rcases hcs with ⟨hw, hst⟩ | ⟨P, hw, ha, hst⟩ | ⟨P, hw, ha, hst, hok⟩
      · have HN := Hid.mk' (HNO.out hst)
        rw [hw] at hmul
        clear hw hst HNO
        have hs0 : wr.drew.cell? ⟨w0.heap.size, 0, none⟩ = some (.slice a K.length c) := hS.1
        have e2 : wr.drew.cell? ⟨B1, 0, none⟩ = some (.slice (some ⟨b2, off2, none⟩) n c2) := hS.2.1
        have e3 : wr.drew.cell? ⟨b2, off2 + i, none⟩ = some (.slice (ad2 i) (ln2 i) (cp2 i)) := hS.2.2
        have HSS := Hid.mk' hS
        clear hS
        go_wp2_with fail
        refine wp_region_any (by kernel_rfl) ?_
        (try (change wpAny _ _ _ _ _ _ _ (World.drew _)))
        refine wpAny_take (i := 1) (v := ?_) rfl (by kernel_rfl) (by kernel_rfl) (by kernel_rfl) (fun _ _ _ h => h) (Or.inl ⟨by rfl, ?_⟩) ?_
        rotate_left
        · (intro w9; go_simp) <;> with_reducible rfl
        refine wpAny_take (i := 3) (v := ?_) rfl (by kernel_rfl) (by kernel_rfl) (by kernel_rfl) (fun _ _ _ h => h) (Or.inl ⟨by rfl, ?_⟩) ?_
        rotate_left
        · (intro w9; go_simp) <;> with_reducible rfl
        refine wpAny_ready (rs := [0, 2]) (by kernel_rfl) (by simp) ?_
        refine AllReady.cons rfl (fun KK hKK => ?_) ?_
        · go_simp
          (try (refine hKK _ _ ?_; clear hKK KK))
          refine wpAny_ready (rs := [2]) (by kernel_rfl) (by simp) ?_
          refine AllReady.cons rfl (fun KK hKK => ?_) ?_
          · go_simp
            (try (refine hKK _ _ ?_; clear hKK KK))
            refine wpAny_take (i := 4) (v := ?_) rfl (by kernel_rfl) (by kernel_rfl) (by kernel_rfl) (fun _ _ _ h => h) (Or.inl ⟨by rfl, ?_⟩) ?_
            rotate_left
            · (intro w9; go_simp) <;> with_reducible rfl
            refine wpAny_ready (rs := [5]) (by kernel_rfl) (by simp) ?_
            refine AllReady.cons rfl (fun KK hKK => ?_) ?_
            · go_simp
              (try (refine hKK _ _ ?_; clear hKK KK))
              refine wpAny_ready (rs := [6]) (by kernel_rfl) (by simp) ?_
              refine AllReady.cons rfl (fun KK hKK => ?_) ?_
              · go_simp
                go_wp2_with (go_at_call 29; refine hmul.mono ?_; rintro e w1 ⟨p1a, p1c, rfl, bb1, oo1⟩; have hs1 := (HSS.out.below bb1).1)
                (try (refine hKK _ _ ?_; clear hKK KK))
                refine wpAny_take (i := 7) (v := ?_) rfl (by kernel_rfl) (by kernel_rfl) (by kernel_rfl) (fun _ _ _ h => h) (Or.inl ⟨by rfl, ?_⟩) ?_
                rotate_left
                · (intro w9; go_simp) <;> with_reducible rfl
                refine wpAny_take (i := 8) (v := ?_) rfl (by kernel_rfl) (by kernel_rfl) (by kernel_rfl) (fun _ _ _ h => h) (Or.inl ⟨by rfl, ?_⟩) ?_
                rotate_left
                · (intro w9; go_simp) <;> with_reducible rfl
                refine wpAny_ready (rs := [9]) (by kernel_rfl) (by simp) ?_
                refine AllReady.cons rfl (fun KK hKK => ?_) ?_
                · go_simp
                  go_wp2_with (go_at_call 64; refine (redNeed_no _ _).mono ?_; rintro e wn ⟨rfl, hwn⟩; obtain rfl := hwn.symm; clear hwn)
                  exact ⟨rfl, SumPost.no (bel_next HBD.out bb1) HN.out⟩
                exact AllReady.nil
              exact AllReady.nil
            exact AllReady.nil
          exact AllReady.nil
        refine AllReady.cons rfl (fun KK hKK => ?_) ?_
        · go_simp
          (try (refine hKK _ _ ?_; clear hKK KK))
          refine wpAny_take (i := 4) (v := ?_) rfl (by kernel_rfl) (by kernel_rfl) (by kernel_rfl) (fun _ _ _ h => h) (Or.inl ⟨by rfl, ?_⟩) ?_
          rotate_left
          · (intro w9; go_simp) <;> with_reducible rfl
          refine wpAny_ready (rs := [0, 5]) (by kernel_rfl) (by simp) ?_
          refine AllReady.cons rfl (fun KK hKK => ?_) ?_
          · go_simp
            (try (refine hKK _ _ ?_; clear hKK KK))
            refine wpAny_ready (rs := [5]) (by kernel_rfl) (by simp) ?_
            refine AllReady.cons rfl (fun KK hKK => ?_) ?_
            · go_simp
              (try (refine hKK _ _ ?_; clear hKK KK))
              refine wpAny_ready (rs := [6]) (by kernel_rfl) (by simp) ?_
              refine AllReady.cons rfl (fun KK hKK => ?_) ?_
              · go_simp
                go_wp2_with (go_at_call 29; refine hmul.mono ?_; rintro e w1 ⟨p1a, p1c, rfl, bb1, oo1⟩; have hs1 := (HSS.out.below bb1).1)
                (try (refine hKK _ _ ?_; clear hKK KK))
                refine wpAny_take (i := 7) (v := ?_) rfl (by kernel_rfl) (by kernel_rfl) (by kernel_rfl) (fun _ _ _ h => h) (Or.inl ⟨by rfl, ?_⟩) ?_
                rotate_left
                · (intro w9; go_simp) <;> with_reducible rfl
                refine wpAny_take (i := 8) (v := ?_) rfl (by kernel_rfl) (by kernel_rfl) (by kernel_rfl) (fun _ _ _ h => h) (Or.inl ⟨by rfl, ?_⟩) ?_
                rotate_left
                · (intro w9; go_simp) <;> with_reducible rfl
                refine wpAny_ready (rs := [9]) (by kernel_rfl) (by simp) ?_
                refine AllReady.cons rfl (fun KK hKK => ?_) ?_
                · go_simp
                  go_wp2_with (go_at_call 64; refine (redNeed_no _ _).mono ?_; rintro e wn ⟨rfl, hwn⟩; obtain rfl := hwn.symm; clear hwn)
                  exact ⟨rfl, SumPost.no (bel_next HBD.out bb1) HN.out⟩
                exact AllReady.nil
              exact AllReady.nil
            exact AllReady.nil
          refine AllReady.cons rfl (fun KK hKK => ?_) ?_
          · go_simp
            (try (refine hKK _ _ ?_; clear hKK KK))
            refine wpAny_ready (rs := [0, 6]) (by kernel_rfl) (by simp) ?_
            refine AllReady.cons rfl (fun KK hKK => ?_) ?_
            · go_simp
              (try (refine hKK _ _ ?_; clear hKK KK))
              refine wpAny_ready (rs := [6]) (by kernel_rfl) (by simp) ?_
              refine AllReady.cons rfl (fun KK hKK => ?_) ?_
              · go_simp
                go_wp2_with (go_at_call 29; refine hmul.mono ?_; rintro e w1 ⟨p1a, p1c, rfl, bb1, oo1⟩; have hs1 := (HSS.out.below bb1).1)
                (try (refine hKK _ _ ?_; clear hKK KK))
                refine wpAny_take (i := 7) (v := ?_) rfl (by kernel_rfl) (by kernel_rfl) (by kernel_rfl) (fun _ _ _ h => h) (Or.inl ⟨by rfl, ?_⟩) ?_
                rotate_left
                · (intro w9; go_simp) <;> with_reducible rfl
                refine wpAny_take (i := 8) (v := ?_) rfl (by kernel_rfl) (by kernel_rfl) (by kernel_rfl) (fun _ _ _ h => h) (Or.inl ⟨by rfl, ?_⟩) ?_
                rotate_left
                · (intro w9; go_simp) <;> with_reducible rfl
                refine wpAny_ready (rs := [9]) (by kernel_rfl) (by simp) ?_
                refine AllReady.cons rfl (fun KK hKK => ?_) ?_
                · go_simp
                  go_wp2_with (go_at_call 64; refine (redNeed_no _ _).mono ?_; rintro e wn ⟨rfl, hwn⟩; obtain rfl := hwn.symm; clear hwn)
                  exact ⟨rfl, SumPost.no (bel_next HBD.out bb1) HN.out⟩
                exact AllReady.nil
              exact AllReady.nil
            refine AllReady.cons rfl (fun KK hKK => ?_) ?_
            · go_simp
              go_wp2_with (go_at_call 29; refine hmul.mono ?_; rintro e w1 ⟨p1a, p1c, rfl, bb1, oo1⟩; have hs1 := (HSS.out.below bb1).1)
              (try (refine hKK _ _ ?_; clear hKK KK))
              refine wpAny_take (i := 7) (v := ?_) rfl (by kernel_rfl) (by kernel_rfl) (by kernel_rfl) (fun _ _ _ h => h) (Or.inl ⟨by rfl, ?_⟩) ?_
              rotate_left
              · (intro w9; go_simp) <;> with_reducible rfl
              refine wpAny_take (i := 8) (v := ?_) rfl (by kernel_rfl) (by kernel_rfl) (by kernel_rfl) (fun _ _ _ h => h) (Or.inl ⟨by rfl, ?_⟩) ?_
              rotate_left
              · (intro w9; go_simp) <;> with_reducible rfl
              refine wpAny_ready (rs := [0, 9]) (by kernel_rfl) (by simp) ?_
              refine AllReady.cons rfl (fun KK hKK => ?_) ?_
              · go_simp
                (try (refine hKK _ _ ?_; clear hKK KK))
                refine wpAny_ready (rs := [9]) (by kernel_rfl) (by simp) ?_
                refine AllReady.cons rfl (fun KK hKK => ?_) ?_
                · go_simp
                  go_wp2_with (go_at_call 64; refine (redNeed_no _ _).mono ?_; rintro e wn ⟨rfl, hwn⟩; obtain rfl := hwn.symm; clear hwn)
                  exact ⟨rfl, SumPost.no (bel_next HBD.out bb1) HN.out⟩
                exact AllReady.nil
              refine AllReady.cons rfl (fun KK hKK => ?_) ?_
              · go_simp
                go_wp2_with (go_at_call 64; refine (redNeed_no _ _).mono ?_; rintro e wn ⟨rfl, hwn⟩; obtain rfl := hwn.symm; clear hwn)
                exact ⟨rfl, SumPost.no (bel_next HBD.out bb1) HN.out⟩
              exact AllReady.nil
            exact AllReady.nil
          exact AllReady.nil
        exact AllReady.nil
      · have HN := Hid.mk' (HNO.out hst)
        rw [hw] at hmul
        clear hw hst HNO
        have hadd : ∀ (u : World) (a' : Option Addr) (c' : Nat), RL u a c K → RL u a' c' P → Calls Try.prog 30 #[.slice a K.length c, .slice a' P.length c'] u fun r w' => ∃ a'' c'', r = .returned (.tuple #[.slice a'' ([] : List T).length c'', .bool false]) ∧ Below u.heap.size u w' ∧ Out u.heap.size w' a'' c'' ([] : List T) := fun u a' c' q1 q2 => by
          have := polAddI u a a' K.length c P.length c' (lf K) (lf P) q1 q2
          rw [show polAdd (lf K) K.length (lf P) P.length = (([] : List T), false) from ha] at this
          exact this
        have HADD := Hid.mk' hadd
        clear hadd ha
        have hs0 : wr.drew.cell? ⟨w0.heap.size, 0, none⟩ = some (.slice a K.length c) := hS.1
        have e2 : wr.drew.cell? ⟨B1, 0, none⟩ = some (.slice (some ⟨b2, off2, none⟩) n c2) := hS.2.1
        have e3 : wr.drew.cell? ⟨b2, off2 + i, none⟩ = some (.slice (ad2 i) (ln2 i) (cp2 i)) := hS.2.2
        have HSS := Hid.mk' hS
        clear hS
        go_wp2_with fail
        refine wp_region_any (by kernel_rfl) ?_
        (try (change wpAny _ _ _ _ _ _ _ (World.drew _)))
        refine wpAny_take (i := 1) (v := ?_) rfl (by kernel_rfl) (by kernel_rfl) (by kernel_rfl) (fun _ _ _ h => h) (Or.inl ⟨by rfl, ?_⟩) ?_
        rotate_left
        · (intro w9; go_simp) <;> with_reducible rfl
        refine wpAny_take (i := 3) (v := ?_) rfl (by kernel_rfl) (by kernel_rfl) (by kernel_rfl) (fun _ _ _ h => h) (Or.inl ⟨by rfl, ?_⟩) ?_
        rotate_left
        · (intro w9; go_simp) <;> with_reducible rfl
        refine wpAny_ready (rs := [0, 2]) (by kernel_rfl) (by simp) ?_
        refine AllReady.cons rfl (fun KK hKK => ?_) ?_
        · go_simp
          (try (refine hKK _ _ ?_; clear hKK KK))
          refine wpAny_ready (rs := [2]) (by kernel_rfl) (by simp) ?_
          refine AllReady.cons rfl (fun KK hKK => ?_) ?_
          · go_simp
            (try (refine hKK _ _ ?_; clear hKK KK))
            refine wpAny_take (i := 4) (v := ?_) rfl (by kernel_rfl) (by kernel_rfl) (by kernel_rfl) (fun _ _ _ h => h) (Or.inl ⟨by rfl, ?_⟩) ?_
            rotate_left
            · (intro w9; go_simp) <;> with_reducible rfl
            refine wpAny_ready (rs := [5]) (by kernel_rfl) (by simp) ?_
            refine AllReady.cons rfl (fun KK hKK => ?_) ?_
            · go_simp
              (try (refine hKK _ _ ?_; clear hKK KK))
              refine wpAny_ready (rs := [6]) (by kernel_rfl) (by simp) ?_
              refine AllReady.cons rfl (fun KK hKK => ?_) ?_
              · go_simp
                go_wp2_with (go_at_call 29; refine hmul.mono ?_; rintro e w1 ⟨p1a, p1c, rfl, bb1, oo1⟩; have hs1 := (HSS.out.below bb1).1)
                (try (refine hKK _ _ ?_; clear hKK KK))
                refine wpAny_take (i := 7) (v := ?_) rfl (by kernel_rfl) (by kernel_rfl) (by kernel_rfl) (fun _ _ _ h => h) (Or.inl ⟨by rfl, ?_⟩) ?_
                rotate_left
                · (intro w9; go_simp) <;> with_reducible rfl
                refine wpAny_take (i := 8) (v := ?_) rfl (by kernel_rfl) (by kernel_rfl) (by kernel_rfl) (fun _ _ _ h => h) (Or.inl ⟨by rfl, ?_⟩) ?_
                rotate_left
                · (intro w9; go_simp) <;> with_reducible rfl
                refine wpAny_ready (rs := [9]) (by kernel_rfl) (by simp) ?_
                refine AllReady.cons rfl (fun KK hKK => ?_) ?_
                · go_simp
                  go_wp2_with (go_at_call 64; refine (redNeed_yes _ _).mono ?_; rintro e wn ⟨rfl, hwn⟩; obtain rfl := hwn.symm; clear hwn)
                  (try (refine hKK _ _ ?_; clear hKK KK))
                  refine wpAny_ready (rs := [10]) (by kernel_rfl) (by simp) ?_
                  refine AllReady.cons rfl (fun KK hKK => ?_) ?_
                  · go_simp
                    go_wp2_with (go_at_call 30; refine (HADD.out w1 p1a p1c (HOD.out.1.below bb1) oo1.1).mono ?_; rintro e w2 ⟨p2a, p2c, rfl, bb2, oo2⟩)
                    (try (refine hKK _ _ ?_; clear hKK KK))
                    refine wpAny_take (i := 11) (v := ?_) rfl (by kernel_rfl) (by kernel_rfl) (by kernel_rfl) (fun _ _ _ h => h) (Or.inl ⟨by rfl, ?_⟩) ?_
                    rotate_left
                    · (intro w9; go_simp) <;> with_reducible rfl
                    refine wpAny_take (i := 12) (v := ?_) rfl (by kernel_rfl) (by kernel_rfl) (by kernel_rfl) (fun _ _ _ h => h) (Or.inl ⟨by rfl, ?_⟩) ?_
                    rotate_left
                    · (intro w9; go_simp) <;> with_reducible rfl
                    refine wpAny_ready (rs := [13]) (by kernel_rfl) (by simp) ?_
                    refine AllReady.cons rfl (fun KK hKK => ?_) ?_
                    · go_simp
                      go_wp2_with (go_at_call 64; refine (redNeed_no _ _).mono ?_; rintro e wn ⟨rfl, hwn⟩; obtain rfl := hwn.symm; clear hwn)
                      exact ⟨rfl, SumPost.no (bel_next (bel_next HBD.out bb1) bb2) HN.out⟩
                    exact AllReady.nil
                  exact AllReady.nil
                exact AllReady.nil
              exact AllReady.nil
            exact AllReady.nil
          exact AllReady.nil
        refine AllReady.cons rfl (fun KK hKK => ?_) ?_
        · go_simp
          (try (refine hKK _ _ ?_; clear hKK KK))
          refine wpAny_take (i := 4) (v := ?_) rfl (by kernel_rfl) (by kernel_rfl) (by kernel_rfl) (fun _ _ _ h => h) (Or.inl ⟨by rfl, ?_⟩) ?_
          rotate_left
          · (intro w9; go_simp) <;> with_reducible rfl
          refine wpAny_ready (rs := [0, 5]) (by kernel_rfl) (by simp) ?_
          refine AllReady.cons rfl (fun KK hKK => ?_) ?_
          · go_simp
            (try (refine hKK _ _ ?_; clear hKK KK))
            refine wpAny_ready (rs := [5]) (by kernel_rfl) (by simp) ?_
            refine AllReady.cons rfl (fun KK hKK => ?_) ?_
            · go_simp
              (try (refine hKK _ _ ?_; clear hKK KK))
              refine wpAny_ready (rs := [6]) (by kernel_rfl) (by simp) ?_
              refine AllReady.cons rfl (fun KK hKK => ?_) ?_
              · go_simp
                go_wp2_with (go_at_call 29; refine hmul.mono ?_; rintro e w1 ⟨p1a, p1c, rfl, bb1, oo1⟩; have hs1 := (HSS.out.below bb1).1)
                (try (refine hKK _ _ ?_; clear hKK KK))
                refine wpAny_take (i := 7) (v := ?_) rfl (by kernel_rfl) (by kernel_rfl) (by kernel_rfl) (fun _ _ _ h => h) (Or.inl ⟨by rfl, ?_⟩) ?_
                rotate_left
                · (intro w9; go_simp) <;> with_reducible rfl
                refine wpAny_take (i := 8) (v := ?_) rfl (by kernel_rfl) (by kernel_rfl) (by kernel_rfl) (fun _ _ _ h => h) (Or.inl ⟨by rfl, ?_⟩) ?_
                rotate_left
                · (intro w9; go_simp) <;> with_reducible rfl
                refine wpAny_ready (rs := [9]) (by kernel_rfl) (by simp) ?_
                refine AllReady.cons rfl (fun KK hKK => ?_) ?_
                · go_simp
                  go_wp2_with (go_at_call 64; refine (redNeed_yes _ _).mono ?_; rintro e wn ⟨rfl, hwn⟩; obtain rfl := hwn.symm; clear hwn)
                  (try (refine hKK _ _ ?_; clear hKK KK))
                  refine wpAny_ready (rs := [10]) (by kernel_rfl) (by simp) ?_
                  refine AllReady.cons rfl (fun KK hKK => ?_) ?_
                  · go_simp
                    go_wp2_with (go_at_call 30; refine (HADD.out w1 p1a p1c (HOD.out.1.below bb1) oo1.1).mono ?_; rintro e w2 ⟨p2a, p2c, rfl, bb2, oo2⟩)
                    (try (refine hKK _ _ ?_; clear hKK KK))
                    refine wpAny_take (i := 11) (v := ?_) rfl (by kernel_rfl) (by kernel_rfl) (by kernel_rfl) (fun _ _ _ h => h) (Or.inl ⟨by rfl, ?_⟩) ?_
                    rotate_left
                    · (intro w9; go_simp) <;> with_reducible rfl
                    refine wpAny_take (i := 12) (v := ?_) rfl (by kernel_rfl) (by kernel_rfl) (by kernel_rfl) (fun _ _ _ h => h) (Or.inl ⟨by rfl, ?_⟩) ?_
                    rotate_left
                    · (intro w9; go_simp) <;> with_reducible rfl
                    refine wpAny_ready (rs := [13]) (by kernel_rfl) (by simp) ?_
                    refine AllReady.cons rfl (fun KK hKK => ?_) ?_
                    · go_simp
                      go_wp2_with (go_at_call 64; refine (redNeed_no _ _).mono ?_; rintro e wn ⟨rfl, hwn⟩; obtain rfl := hwn.symm; clear hwn)
                      exact ⟨rfl, SumPost.no (bel_next (bel_next HBD.out bb1) bb2) HN.out⟩
                    exact AllReady.nil
                  exact AllReady.nil
                exact AllReady.nil
              exact AllReady.nil
            exact AllReady.nil
          refine AllReady.cons rfl (fun KK hKK => ?_) ?_
          · go_simp
            (try (refine hKK _ _ ?_; clear hKK KK))
            refine wpAny_ready (rs := [0, 6]) (by kernel_rfl) (by simp) ?_
            refine AllReady.cons rfl (fun KK hKK => ?_) ?_
            · go_simp
              (try (refine hKK _ _ ?_; clear hKK KK))
              refine wpAny_ready (rs := [6]) (by kernel_rfl) (by simp) ?_
              refine AllReady.cons rfl (fun KK hKK => ?_) ?_
              · go_simp
                go_wp2_with (go_at_call 29; refine hmul.mono ?_; rintro e w1 ⟨p1a, p1c, rfl, bb1, oo1⟩; have hs1 := (HSS.out.below bb1).1)
                (try (refine hKK _ _ ?_; clear hKK KK))
                refine wpAny_take (i := 7) (v := ?_) rfl (by kernel_rfl) (by kernel_rfl) (by kernel_rfl) (fun _ _ _ h => h) (Or.inl ⟨by rfl, ?_⟩) ?_
                rotate_left
                · (intro w9; go_simp) <;> with_reducible rfl
                refine wpAny_take (i := 8) (v := ?_) rfl (by kernel_rfl) (by kernel_rfl) (by kernel_rfl) (fun _ _ _ h => h) (Or.inl ⟨by rfl, ?_⟩) ?_
                rotate_left
                · (intro w9; go_simp) <;> with_reducible rfl
                refine wpAny_ready (rs := [9]) (by kernel_rfl) (by simp) ?_
                refine AllReady.cons rfl (fun KK hKK => ?_) ?_
                · go_simp
                  go_wp2_with (go_at_call 64; refine (redNeed_yes _ _).mono ?_; rintro e wn ⟨rfl, hwn⟩; obtain rfl := hwn.symm; clear hwn)
                  (try (refine hKK _ _ ?_; clear hKK KK))
                  refine wpAny_ready (rs := [10]) (by kernel_rfl) (by simp) ?_
                  refine AllReady.cons rfl (fun KK hKK => ?_) ?_
                  · go_simp
                    go_wp2_with (go_at_call 30; refine (HADD.out w1 p1a p1c (HOD.out.1.below bb1) oo1.1).mono ?_; rintro e w2 ⟨p2a, p2c, rfl, bb2, oo2⟩)
                    (try (refine hKK _ _ ?_; clear hKK KK))
                    refine wpAny_take (i := 11) (v := ?_) rfl (by kernel_rfl) (by kernel_rfl) (by kernel_rfl) (fun _ _ _ h => h) (Or.inl ⟨by rfl, ?_⟩) ?_
                    rotate_left
                    · (intro w9; go_simp) <;> with_reducible rfl
                    refine wpAny_take (i := 12) (v := ?_) rfl (by kernel_rfl) (by kernel_rfl) (by kernel_rfl) (fun _ _ _ h => h) (Or.inl ⟨by rfl, ?_⟩) ?_
                    rotate_left
                    · (intro w9; go_simp) <;> with_reducible rfl
                    refine wpAny_ready (rs := [13]) (by kernel_rfl) (by simp) ?_
                    refine AllReady.cons rfl (fun KK hKK => ?_) ?_
                    · go_simp
                      go_wp2_with (go_at_call 64; refine (redNeed_no _ _).mono ?_; rintro e wn ⟨rfl, hwn⟩; obtain rfl := hwn.symm; clear hwn)
                      exact ⟨rfl, SumPost.no (bel_next (bel_next HBD.out bb1) bb2) HN.out⟩
                    exact AllReady.nil
                  exact AllReady.nil
                exact AllReady.nil
              exact AllReady.nil
            refine AllReady.cons rfl (fun KK hKK => ?_) ?_
            · go_simp
              go_wp2_with (go_at_call 29; refine hmul.mono ?_; rintro e w1 ⟨p1a, p1c, rfl, bb1, oo1⟩; have hs1 := (HSS.out.below bb1).1)
              (try (refine hKK _ _ ?_; clear hKK KK))
              refine wpAny_take (i := 7) (v := ?_) rfl (by kernel_rfl) (by kernel_rfl) (by kernel_rfl) (fun _ _ _ h => h) (Or.inl ⟨by rfl, ?_⟩) ?_
              rotate_left
              · (intro w9; go_simp) <;> with_reducible rfl
              refine wpAny_take (i := 8) (v := ?_) rfl (by kernel_rfl) (by kernel_rfl) (by kernel_rfl) (fun _ _ _ h => h) (Or.inl ⟨by rfl, ?_⟩) ?_
              rotate_left
              · (intro w9; go_simp) <;> with_reducible rfl
              refine wpAny_ready (rs := [0, 9]) (by kernel_rfl) (by simp) ?_
              refine AllReady.cons rfl (fun KK hKK => ?_) ?_
              · go_simp
                (try (refine hKK _ _ ?_; clear hKK KK))
                refine wpAny_ready (rs := [9]) (by kernel_rfl) (by simp) ?_
                refine AllReady.cons rfl (fun KK hKK => ?_) ?_
                · go_simp
                  go_wp2_with (go_at_call 64; refine (redNeed_yes _ _).mono ?_; rintro e wn ⟨rfl, hwn⟩; obtain rfl := hwn.symm; clear hwn)
                  (try (refine hKK _ _ ?_; clear hKK KK))
                  refine wpAny_ready (rs := [10]) (by kernel_rfl) (by simp) ?_
                  refine AllReady.cons rfl (fun KK hKK => ?_) ?_
                  · go_simp
                    go_wp2_with (go_at_call 30; refine (HADD.out w1 p1a p1c (HOD.out.1.below bb1) oo1.1).mono ?_; rintro e w2 ⟨p2a, p2c, rfl, bb2, oo2⟩)
                    (try (refine hKK _ _ ?_; clear hKK KK))
                    refine wpAny_take (i := 11) (v := ?_) rfl (by kernel_rfl) (by kernel_rfl) (by kernel_rfl) (fun _ _ _ h => h) (Or.inl ⟨by rfl, ?_⟩) ?_
                    rotate_left
                    · (intro w9; go_simp) <;> with_reducible rfl
                    refine wpAny_take (i := 12) (v := ?_) rfl (by kernel_rfl) (by kernel_rfl) (by kernel_rfl) (fun _ _ _ h => h) (Or.inl ⟨by rfl, ?_⟩) ?_
                    rotate_left
                    · (intro w9; go_simp) <;> with_reducible rfl
                    refine wpAny_ready (rs := [13]) (by kernel_rfl) (by simp) ?_
                    refine AllReady.cons rfl (fun KK hKK => ?_) ?_
                    · go_simp
                      go_wp2_with (go_at_call 64; refine (redNeed_no _ _).mono ?_; rintro e wn ⟨rfl, hwn⟩; obtain rfl := hwn.symm; clear hwn)
                      exact ⟨rfl, SumPost.no (bel_next (bel_next HBD.out bb1) bb2) HN.out⟩
                    exact AllReady.nil
                  exact AllReady.nil
                exact AllReady.nil
              refine AllReady.cons rfl (fun KK hKK => ?_) ?_
              · go_simp
                go_wp2_with (go_at_call 64; refine (redNeed_yes _ _).mono ?_; rintro e wn ⟨rfl, hwn⟩; obtain rfl := hwn.symm; clear hwn)
                (try (refine hKK _ _ ?_; clear hKK KK))
                refine wpAny_ready (rs := [0]) (by kernel_rfl) (by simp) ?_
                refine AllReady.cons rfl (fun KK hKK => ?_) ?_
                · go_simp
                  (try (refine hKK _ _ ?_; clear hKK KK))
                  refine wpAny_ready (rs := [10]) (by kernel_rfl) (by simp) ?_
                  refine AllReady.cons rfl (fun KK hKK => ?_) ?_
                  · go_simp
                    go_wp2_with (go_at_call 30; refine (HADD.out w1 p1a p1c (HOD.out.1.below bb1) oo1.1).mono ?_; rintro e w2 ⟨p2a, p2c, rfl, bb2, oo2⟩)
                    (try (refine hKK _ _ ?_; clear hKK KK))
                    refine wpAny_take (i := 11) (v := ?_) rfl (by kernel_rfl) (by kernel_rfl) (by kernel_rfl) (fun _ _ _ h => h) (Or.inl ⟨by rfl, ?_⟩) ?_
                    rotate_left
                    · (intro w9; go_simp) <;> with_reducible rfl
                    refine wpAny_take (i := 12) (v := ?_) rfl (by kernel_rfl) (by kernel_rfl) (by kernel_rfl) (fun _ _ _ h => h) (Or.inl ⟨by rfl, ?_⟩) ?_
                    rotate_left
                    · (intro w9; go_simp) <;> with_reducible rfl
                    refine wpAny_ready (rs := [13]) (by kernel_rfl) (by simp) ?_
                    refine AllReady.cons rfl (fun KK hKK => ?_) ?_
                    · go_simp
                      go_wp2_with (go_at_call 64; refine (redNeed_no _ _).mono ?_; rintro e wn ⟨rfl, hwn⟩; obtain rfl := hwn.symm; clear hwn)
                      exact ⟨rfl, SumPost.no (bel_next (bel_next HBD.out bb1) bb2) HN.out⟩
                    exact AllReady.nil
                  exact AllReady.nil
                exact AllReady.nil
              exact AllReady.nil
            exact AllReady.nil
          exact AllReady.nil
        exact AllReady.nil
      · have HN := Hid.mk' ((sumPr_step HS.out).trans hst)
        rw [hw] at hmul
        clear hw hst HNO
        have hadd : ∀ (u : World) (a' : Option Addr) (c' : Nat), RL u a c K → RL u a' c' P → Calls Try.prog 30 #[.slice a K.length c, .slice a' P.length c'] u fun r w' => ∃ a'' c'', r = .returned (.tuple #[.slice a'' (addL K P).length c'', .bool true]) ∧ Below u.heap.size u w' ∧ Out u.heap.size w' a'' c'' (addL K P) := fun u a' c' q1 q2 => by
          have := polAddI u a a' K.length c P.length c' (lf K) (lf P) q1 q2
          rw [show polAdd (lf K) K.length (lf P) P.length = ((addL K P), true) from ha] at this
          exact this
        have HADD := Hid.mk' hadd
        clear hadd ha
        have hs0 : wr.drew.cell? ⟨w0.heap.size, 0, none⟩ = some (.slice a K.length c) := hS.1
        have e2 : wr.drew.cell? ⟨B1, 0, none⟩ = some (.slice (some ⟨b2, off2, none⟩) n c2) := hS.2.1
        have e3 : wr.drew.cell? ⟨b2, off2 + i, none⟩ = some (.slice (ad2 i) (ln2 i) (cp2 i)) := hS.2.2
        have HSS := Hid.mk' hS
        clear hS
        go_wp2_with fail
        go_region_with (first
          | (go_at_call 29; refine hmul.mono ?_; rintro e w1 ⟨p1a, p1c, rfl, bb1, oo1⟩; have hs1 := (HSS.out.below bb1).1)
          | (go_at_call 30; refine (HADD.out w1 p1a p1c (HOD.out.1.below bb1) oo1.1).mono ?_; rintro e w2 ⟨p2a, p2c, rfl, bb2, oo2⟩; have hz2 := HZ.out w1 w2 bb1 bb2; have hs2 := ((HSS.out.below bb1).below bb2).1)
          | (go_at_call 64; refine (redNeed_yes _ _).mono ?_; rintro e wn ⟨rfl, hwn⟩; obtain rfl := hwn.symm; clear hwn))
        all_goals
          have HB2 := Hid.mk' (bel_next (bel_next HBD.out bb1) bb2)
          have hz1 : w0.heap.size + 1 ≤ w1.heap.size := World.block_lt_of_cell? w1 _ hs1
          have HO2 := Hid.mk' ((oo2.low hz1).set (o := 0) (v := .slice p2a (addL K P).length p2c) (Nat.lt_succ_self _))
          have HC2 : Hid ((w2.setCell ⟨w0.heap.size, 0, none⟩ (.slice p2a (addL K P).length p2c)).cell? ⟨w0.heap.size, 0, none⟩ = some (.slice p2a (addL K P).length p2c)) := by
            show _ = _
            simp [go_sem, hs2]
          have HF2 : Hid ((w2.setCell ⟨w0.heap.size, 0, none⟩ (.slice p2a (addL K P).length p2c)).frozen? ⟨w0.heap.size, 0, none⟩ = false) := by
            show _ = _
            simp [go_sem, hz2]
          go_wp2
          go_roundw
          case rel => exact ⟨i + 1, addL K P, p2a, p2c, by omega, by go_num, HN.out, hok, HB2.out.setCell (Nat.le_refl _) _, HC2.out, HF2.out, HO2.out⟩
          case measure => simp [intOf]; omega
    · have hnl : ¬ (i : Int) < (n : Int) := by omega
      have hie : i = n := by omega
      subst hie
      go_wp2
      go_end0
      exact SumPost.yes HB.out HS.out HK.out HCL.out HO.out
end Go.Proofs.Ytbkighpmkadmmaa
namespace Go.Proofs.Ytbkighpmkadmmaa
open Go.RowKit Go.Deep Go.Joins
set_option linter.unusedVariables false

theorem RdS.below2 {w w' : World} {a : Option Addr} {n cap : Nat} {ad : Nat → Option Addr} {ln cp : Nat → Nat} {f : Nat → Nat → T} (h : RdS w a n cap ad ln cp f) (hb : Below w.heap.size w w') : RdS w' a n cap ad ln cp f := h.below hb
set_option maxRecDepth 100000 in
set_option maxHeartbeats 8000000 in
theorem redSumI (w : World) (a1 : Option Addr) (n1 c1 : Nat) (ad1 : Nat → Option Addr) (ln1 cp1 : Nat → Nat) (f1 : Nat → Nat → T) (h1 : RdS w a1 n1 c1 ad1 ln1 cp1 f1) (a2 : Option Addr) (n2 c2 : Nat) (ad2 : Nat → Option Addr) (ln2 cp2 : Nat → Nat) (f2 : Nat → Nat → T) (h2 : RdS w a2 n2 c2 ad2 ln2 cp2 f2) :
    Calls Try.prog 27 #[.slice a1 n1 c1, .slice a2 n2 c2] w fun r w' => ∃ a c, r = .returned (.tuple #[.slice a (redSum n1 ln1 f1 n2 ln2 f2).1.length c, .bool (redSum n1 ln1 f1 n2 ln2 f2).2]) ∧ Below w.heap.size w w' ∧ Out w.heap.size w' a c (redSum n1 ln1 f1 n2 ln2 f2).1 := by
  have q1 : (n1 : Int) ≤ 140737488351232 := by have := h1.2.1; omega
  have q2 : (n2 : Int) ≤ 140737488351232 := by have := h2.2.1; omega
  have HB0 := Hid.mk' (bel_two w (.cells #[.slice a1 n1 c1] 23) (.cells #[.slice a2 n2 c2] 23))
  have H1 := Hid.mk' (h1.below HB0.out)
  have H2 := Hid.mk' (h2.below HB0.out)
  clear h1 h2
  by_cases hn : n1 = n2 ∧ n2 ≤ 12
  · obtain ⟨hn1, hn2⟩ := hn
    have HE : Hid (redSum n1 ln1 f1 n2 ln2 f2 = mulO (sumPr ln1 f1 ln2 f2 n2)) := if_pos ⟨hn1, hn2⟩
    subst hn1
    have hne : ((n1 : Int) != (n1 : Int)) = false := by simp
    have hng : ¬ (12 : Int) < (n1 : Int) := by omega
    have hsz : ((w.alloc (.cells #[.slice a1 n1 c1] 23)).alloc (.cells #[.slice a2 n1 c2] 23)).heap.size = w.heap.size + 2 := by simp
    have k0 : ((w.alloc (.cells #[.slice a1 n1 c1] 23)).alloc (.cells #[.slice a2 n1 c2] 23)).cell? ⟨w.heap.size, 0, none⟩ = some (.slice a1 n1 c1) := by simp [go_sem]
    have k1 : ((w.alloc (.cells #[.slice a1 n1 c1] 23)).alloc (.cells #[.slice a2 n1 c2] 23)).cell? ⟨w.heap.size + 1, 0, none⟩ = some (.slice a2 n1 c2) := by
      simp [go_sem]
    obtain ⟨w0, hw0⟩ : ∃ w0, ((w.alloc (.cells #[.slice a1 n1 c1] 23)).alloc (.cells #[.slice a2 n1 c2] 23)) = w0 := ⟨_, rfl⟩
    have HS1 : Hid (Calls Try.prog 63 #[.pointer (some ⟨w.heap.size, 0, none⟩), .pointer (some ⟨w.heap.size + 2, 0, none⟩), .pointer (some ⟨w.heap.size + 1, 0, none⟩)] (((w.alloc (.cells #[.slice a1 n1 c1] 23)).alloc (.cells #[.slice a2 n1 c2] 23)).alloc (.cells #[.slice none 0 0] 29)) fun r w' => SumPost w0 (sumPr ln1 f1 ln2 f2 n1) r w') := by
      have := sum1I ((w.alloc (.cells #[.slice a1 n1 c1] 23)).alloc (.cells #[.slice a2 n1 c2] 23)) (((w.alloc (.cells #[.slice a1 n1 c1] 23)).alloc (.cells #[.slice a2 n1 c2] 23)).alloc (.cells #[.slice none 0 0] 29)) w.heap.size (w.heap.size + 1) n1 a1 c1 ad1 ln1 cp1 f1 H1.out a2 c2 ad2 ln2 cp2 f2 H2.out k0 k1 (bel_one _ _) (by rw [World.cell?_alloc_at _ _ _ _ rfl]; rfl) (by rw [World.frozen?_alloc_at _ _ _ _ rfl])
      rw [hsz, hw0] at this
      rw [hw0]
      exact this
    have hsz0 : w0.heap.size = w.heap.size + 2 := by rw [← hw0]; exact hsz
    have hBw : Below w.heap.size w w0 := by rw [← hw0]; exact HB0.out
    have HBW := Hid.mk' hBw
    clear hBw k0 k1
    cases hS : sumPr ln1 f1 ln2 f2 n1 with
    | some K =>
      have e2 : redSum n1 ln1 f1 n1 ln2 f2 = (K, true) := by rw [HE.out, hS]; rfl
      rw [e2]
      have HC := Hid.mk' (redEnds_yes 63 #[.pointer (some ⟨w.heap.size, 0, none⟩), .pointer (some ⟨w.heap.size + 2, 0, none⟩), .pointer (some ⟨w.heap.size + 1, 0, none⟩)] (((w.alloc (.cells #[.slice a1 n1 c1] 23)).alloc (.cells #[.slice a2 n1 c2] 23)).alloc (.cells #[.slice none 0 0] 29)) (fun w' => Below w0.heap.size w0 w' ∧ ∃ a c, w'.cell? ⟨w.heap.size + 2, 0, none⟩ = some (.slice a K.length c) ∧ Out (w.heap.size + 3) w' a c K) (enters_of Try.func63 (by kernel_rfl) rfl) (HS1.out.mono fun r w' h => by
        rw [hS] at h
        rcases h.2 with ⟨K', a, c, hK, _, hr, hcl, ho⟩ | ⟨hno, _⟩
        · cases hK
          rw [hsz0] at hcl ho
          exact ⟨hr, h.1, a, c, hcl, ho⟩
        · cases hno))
      clear HS1 e2 hS hw0 hsz
      go_enter Try.func27, Try.ntmps27
      go_wp2_with fail
      refine HC.out.mono ?_
      rintro r w3 ⟨rfl, w1, ⟨hb, a, c, hcl, hout⟩, rfl⟩
      have g1 : (w1.alloc (.cells #[] 127)).cell? ⟨w.heap.size + 2, 0, none⟩ = some (.slice a K.length c) := ((bel_one w1 _).cell (p := ⟨w.heap.size + 2, 0, none⟩) (World.block_lt_of_cell? w1 _ hcl)).trans hcl
      have HB3 := Hid.mk' (bel_next (bel_next HBW.out hb) (bel_one w1 (.cells #[] 127)))
      have HO3 := Hid.mk' ((hout.below (bel_one w1 (.cells #[] 127))).low (lo' := w.heap.size) (by omega))
      clear hb hcl hout HC
      go_wp2
      refine bodyPost_ret (results_tmp2 rfl _ _ _) rfl ?_
      exact ⟨a, c, rfl, HB3.out, HO3.out⟩
    | none =>
      have e2 : redSum n1 ln1 f1 n1 ln2 f2 = ([], false) := by rw [HE.out, hS]; rfl
      rw [e2]
      have HC := Hid.mk' (redEnds_no 63 #[.pointer (some ⟨w.heap.size, 0, none⟩), .pointer (some ⟨w.heap.size + 2, 0, none⟩), .pointer (some ⟨w.heap.size + 1, 0, none⟩)] (((w.alloc (.cells #[.slice a1 n1 c1] 23)).alloc (.cells #[.slice a2 n1 c2] 23)).alloc (.cells #[.slice none 0 0] 29)) (fun w' => Below w0.heap.size w0 w') (enters_of Try.func63 (by kernel_rfl) rfl) (HS1.out.mono fun r w' h => by
        rw [hS] at h
        rcases h.2 with ⟨K', a, c, hK, _⟩ | ⟨_, hr⟩
        · cases hK
        · exact ⟨hr, h.1⟩))
      clear HS1 e2 hS hw0 hsz
      go_enter Try.func27, Try.ntmps27
      go_wp2_with fail
      refine HC.out.mono ?_
      rintro r w3 ⟨rfl, w1, hb, rfl⟩
      have HB3 := Hid.mk' (bel_next (bel_next HBW.out hb) (bel_one w1 (.cells #[] 127)))
      clear hb HC
      go_wp2
      refine bodyPost_ret (results_tmp2 rfl _ _ _) rfl ?_
      exact ⟨none, 0, rfl, HB3.out, Out.nil _ _⟩
  · have HE : Hid (redSum n1 ln1 f1 n2 ln2 f2 = ([], false)) := if_neg hn
    by_cases he : n1 = n2
    · subst he
      have hne : ((n1 : Int) != (n1 : Int)) = false := by simp
      have hng : (12 : Int) < (n1 : Int) := by omega
      go_enter Try.func27, Try.ntmps27
      go_wp2
      refine bodyPost_ret (results_tmp2 rfl _ _ _) rfl ?_
      rw [HE.out]
      exact ⟨none, 0, rfl, HB0.out, Out.nil _ _⟩
    · have hne : ((n1 : Int) != (n2 : Int)) = true := by simp; omega
      go_enter Try.func27, Try.ntmps27
      go_wp2
      refine bodyPost_ret (results_tmp2 rfl _ _ _) rfl ?_
      rw [HE.out]
      exact ⟨none, 0, rfl, HB0.out, Out.nil _ _⟩
end Go.Proofs.Ytbkighpmkadmmaa
