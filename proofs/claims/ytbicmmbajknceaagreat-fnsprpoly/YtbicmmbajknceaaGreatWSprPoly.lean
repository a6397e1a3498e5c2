/-
  The walk of FnSprPoly: whatever the code, it comes out true, and nothing that was there is turned.
-/
import Derived.Test.YtbicmmbajknceaaGreatOrdD
import Derived.Test.YtbicmmbajknceaaGreatSprQ
import Derived.Test.YtbicmmbajknceaaGreatSprW
namespace Go.Proofs.YtbicmmbajknceaaGreat
open Go.RowKit Go.Deep Go.Joins
set_option linter.unusedVariables false
theorem sprI_L {w : World} (o : Int) {a b : Option Addr} {ca cb : Nat} {A B : List T} (ha : RL w a ca A) (hb : RL w b cb B) : Calls Tryz.prog 8 #[.int .i64 o, .slice a A.length ca, .slice b B.length cb] w (Two2 w (sprPoly o (lf A) A.length (lf B) B.length)) :=
  (sprPolyI w o a b A.length ca B.length cb (lf A) (lf B) ha hb).mono fun _ _ h => two_out h
theorem sprS_L {w : World} (o : Int) {a b : Option Addr} {ca cb : Nat} {A B : List T} (ha : RL w a ca A) (hb : RL w b cb B) : Calls Tryz.prog 9 #[.int .i64 o, .slice a A.length ca, .slice b B.length cb] w (Two2 w (sprPoly o (lf A) A.length (lf B) B.length)) :=
  (sprPolyS w o a b A.length ca B.length cb (lf A) (lf B) ha hb).mono fun _ _ h => two_owns (sprPoly_len _ _ _ _ _) h
set_option maxHeartbeats 1000000 in
theorem drawSprPoly (w : World) (a : Option Addr) (len cap : Nat) (h : Src w a len cap) :
    Calls Tryz.prog 7 #[.slice a len cap] w fun e w' => ∃ (o : Int) (a : Option Addr) (n ca : Nat) (f : Nat → T) (b : Option Addr) (m cb : Nat) (g : Nat → T), e = .returned (.tuple #[.int .i64 o, .slice a n ca, .slice b m cb]) ∧ Rd w' a n ca f ∧ Rd w' b m cb g ∧ n ≤ 5 ∧ m ≤ 5 ∧ Below w.heap.size w w' := by
  go_enter Tryz.func7, Tryz.ntmps7
  go_wp2_with fail
  refine (drawSprTerms _ _ _ _ h).mono ?_
  rintro e w1 ⟨o, pa, n, pc, f, pb, m, qc, g, rfl, hrd, hrd', hn, hm, b1⟩
  go_wp2
  refine bodyPost_ret (v := .tuple #[.int .i64 o, .slice pa n pc, .slice pb m qc]) (by simp [results, Tryz.results7, go_sem, *]) rfl ?_
  exact ⟨o, pa, n, pc, f, pb, m, qc, g, rfl, hrd, hrd', hn, hm, b1⟩
set_option maxRecDepth 100000 in
set_option maxHeartbeats 8000000 in
theorem walk_FnSprPoly (w : World) (a0 : Option Addr) (len0 cap0 : Nat) (s0 : Src w a0 len0 cap0) :
    Calls Tryz.prog 3 #[.slice a0 len0 cap0] w fun e w' => e = .returned (.bool true) ∧ Below w.heap.size w w' := by
  by_cases c0 : (1048576 : Int) < (len0 : Int)
  · go_enter Tryz.func3, Tryz.ntmps3
    go_wp2
    go_ret
    exact ⟨rfl, Below.refl _ _⟩
  go_enter Tryz.func3, Tryz.ntmps3
  go_wp2_with fail
  refine (drawSprPoly _ _ _ _ s0).mono ?_
  rintro e w1 ⟨o, pa, n, pc, f, pb, m, qc, g, rfl, hrd, hrd', hn, hm, b1⟩
  obtain ⟨A, rfl, hA⟩ := list_of hrd
  obtain ⟨B, rfl, hB⟩ := list_of hrd'
  have RA1 := Hid.mk' hA
  have RB1 := Hid.mk' hB
  have B1 := Hid.mk' b1
  have hn5 : (A.length : Int) ≤ 5 := by omega
  have hm5 : (B.length : Int) ≤ 5 := by omega
  obtain ⟨L, ok, hL⟩ : ∃ L ok, sprPoly o (lf A) A.length (lf B) B.length = (L, ok) := ⟨_, _, rfl⟩
  have c1 := fun (W : World) (h : RL W pa pc A) (h' : RL W pb qc B) => sprI_L (w := W) o h h'
  have c2 := fun (W : World) (h : RL W pa pc A) (h' : RL W pb qc B) => sprS_L (w := W) o h h'
  rw [hL] at c1 c2
  have c3 := fun (W : World) (h : RL W pa pc A) => polLeadI W o pa A.length pc (lf A) h
  have c4 := fun (W : World) (h : RL W pb qc B) => polLeadI W o pb B.length qc (lf B) h
  have hlen : L.length ≤ 400 := by have := sprPoly_len o (lf A) A.length (lf B) B.length; rw [hL] at this; exact this
  have hno : ok = false → L.length = 0 := fun h => by
    subst h
    unfold sprPoly diffV at hL
    split at hL
    · split at hL
      · rcases subV_case (wylMul (lf [sprU o A.length (lf A) B.length (lf B)]) 1 (lf A) A.length).1 (wylMul (lf [sprV o A.length (lf A) B.length (lf B)]) 1 (lf B) B.length).1 with e | ⟨_, _, _, e⟩
        · have := hL.symm.trans (show polSub _ _ _ _ = ([], false) from e); cases this; rfl
        · have := hL.symm.trans (show polSub _ _ _ _ = (_, true) from e); cases this
      · cases hL; rfl
    · cases hL; rfl
  have C3 := Hid.mk' c3
  have C4 := Hid.mk' c4
  have HL := Hid.mk' hL
  clear s0 hrd hrd' b1 hA hB c3 c4 hL
  have hkk : (ok != ok) = false := by simp
  go_wp2_with fail
  refine (c1 w1 RA1.out RB1.out).mono ?_
  rintro e w2 ⟨xa, xc, rfl, b2, hx⟩
  have RA2 := Hid.mk' (RA1.out.below b2)
  have RB2 := Hid.mk' (RB1.out.below b2)
  have X2 := Hid.mk' hx
  have B2 := Hid.mk' (bel_next B1.out b2)
  clear b2 hx RA1 RB1 B1
  go_wp2_with fail
  refine (c2 w2 RA2.out RB2.out).mono ?_
  rintro e w3 ⟨ya, yc, rfl, b3, hy⟩
  have RA3 := Hid.mk' (RA2.out.below b3)
  have RB3 := Hid.mk' (RB2.out.below b3)
  have X3 := Hid.mk' (X2.out.below b3)
  have B3 := Hid.mk' (bel_next B2.out b3)
  have Y3 := Hid.mk' hy
  clear b3 hy RA2 RB2 X2 B2
  go_wp2_with fail
  refine (he_L X3.out Y3.out).mono ?_
  rw [sq_same]
  rintro e w4 ⟨rfl, b4⟩
  have RA4 := Hid.mk' (RA3.out.below b4)
  have RB4 := Hid.mk' (RB3.out.below b4)
  have X4 := Hid.mk' (X3.out.below b4)
  have B4 := Hid.mk' (bel_next B3.out b4)
  clear b4 RA3 RB3 X3 B3 Y3
  cases ok
  · have e1 := hno rfl
    have hl0 : ((L.length : Int) == 0) = true := by simp [e1]
    clear e1 hno
    go_wp2_with fail
    refine (heOkT _).mono ?_
    rintro e wz ⟨rfl, bzz⟩
    have HBZ := Hid.mk' (bel_next B4.out bzz)
    clear bzz
    go_wp2
    go_ret
    exact ⟨rfl, HBZ.out⟩
  · have hswap := spr_swap HL.out
    have hself := spr_self o A
    have hbelow := spr_below HL.out
    have hokL := spr_ok HL.out
    have c5 := fun (W : World) (h : RL W pb qc B) (h' : RL W pa pc A) => sprI_L (w := W) o h h'
    rw [hswap] at c5
    obtain ⟨Z, zk, hZ⟩ : ∃ Z zk, sprPoly o (lf A) A.length (lf A) A.length = (Z, zk) := ⟨_, _, rfl⟩
    rw [hZ] at hself
    have hself : Z = [] := hself
    subst hself
    have c6 := fun (W : World) (h : RL W pa pc A) (h' : RL W pa pc A) => sprI_L (w := W) o h h'
    rw [hZ] at c6
    have hsc : scV 100 L = scL 100 L := scV_is (by omega) (by omega) hokL
    have hat : ∀ i, i < L.length → M.cmp o (lf L i).m (M.both (leadT o A.length (lf A)).m (leadT o B.length (lf B)).m) < 0 := fun i hi => hbelow _ (by rw [lf_eq hi]; exact List.getElem_mem _)
    have c3 := C3.out
    have c4 := C4.out
    generalize leadT o A.length (lf A) = s at *
    generalize leadT o B.length (lf B) = t at *
    generalize leadOk o A.length (lf A) = k1 at *
    generalize leadOk o B.length (lf B) = k2 at *
    obtain ⟨b, hb⟩ : ∃ b, M.both ⟨s.m.x, s.m.y, s.m.d, s.m.e⟩ ⟨t.m.x, t.m.y, t.m.d, t.m.e⟩ = b := ⟨_, rfl⟩
    rw [show M.both s.m t.m = b from hb] at hat
    have HAT := Hid.mk' hat
    have D5 := Hid.mk' c5
    have D6 := Hid.mk' c6
    have HSC := Hid.mk' hsc
    clear hswap hZ hbelow hokL c5 c6 hat hsc HL hno c1 c2
    go_wp2_with fail
    refine (c3 w4 RA4.out).mono ?_
    rintro e w5 ⟨rfl, b5⟩
    have hbb := bel_next b5 (bel_one w5 (.cells #[.int .i64 s.c, .int .i64 s.m.x, .int .i64 s.m.y, .int .i64 s.m.d, .int .i64 s.m.e] 33))
    have RA5 := Hid.mk' (RA4.out.below hbb)
    have RB5 := Hid.mk' (RB4.out.below hbb)
    have X5 := Hid.mk' (X4.out.below hbb)
    have B5 := Hid.mk' (bel_next B4.out hbb)
    have S5 := Hid.mk' (C5.box w5 33 s)
    clear b5 hbb RA4 RB4 X4 B4
    go_wp2_with fail
    generalize (w5.alloc (.cells #[.int .i64 s.c, .int .i64 s.m.x, .int .i64 s.m.y, .int .i64 s.m.d, .int .i64 s.m.e] 33)) = w6 at *
    refine (c4 w6 RB5.out).mono ?_
    rintro e w7 ⟨rfl, b7⟩
    have hbb := bel_next b7 (bel_one w7 (.cells #[.int .i64 t.c, .int .i64 t.m.x, .int .i64 t.m.y, .int .i64 t.m.d, .int .i64 t.m.e] 33))
    have RA7 := Hid.mk' (RA5.out.below hbb)
    have RB7 := Hid.mk' (RB5.out.below hbb)
    have X7 := Hid.mk' (X5.out.below hbb)
    have B7 := Hid.mk' (bel_next B5.out hbb)
    have hs7 := S5.out.below b7
    obtain ⟨r0, r1, r2, r3, r4⟩ := hs7
    have hl7 : w5.heap.size < w7.heap.size := World.block_lt_of_cell? w7 _ r0
    clear b7 hbb RA5 RB5 X5 B5 S5 c3 c4 C3 C4
    go_wp2_with fail
    clear r0 r1 r2 r3 r4
    generalize (w7.alloc (.cells #[.int .i64 t.c, .int .i64 t.m.x, .int .i64 t.m.y, .int .i64 t.m.d, .int .i64 t.m.e] 33)) = w8 at *
    refine (monBothI_of hb _).mono ?_
    rintro e w9 ⟨rfl, b9⟩
    have hbb := bel_next b9 (bel_one w9 (.cells #[.int .i64 b.x, .int .i64 b.y, .int .i64 b.d, .int .i64 b.e] 31))
    have RA9 := Hid.mk' (RA7.out.below hbb)
    have RB9 := Hid.mk' (RB7.out.below hbb)
    have X9 := Hid.mk' (X7.out.below hbb)
    have B9 := Hid.mk' (bel_next B7.out hbb)
    have M9 := Hid.mk' (M4.box w9 31 b.x b.y b.d b.e)
    clear b9 hbb RA7 RB7 X7 B7 hl7 hb
    go_wp2
    generalize (w9.alloc (.cells #[.int .i64 b.x, .int .i64 b.y, .int .i64 b.d, .int .i64 b.e] 31)) = wA at *
    go_loopw [15] (fun i wr => ∃ k : Nat, k ≤ L.length ∧ i = .int .i64 (k : Int) ∧ Below wA.heap.size wA wr) (fun i _ => L.length - (intOf i).toNat)
    case atStart => exact ⟨0, Nat.zero_le _, rfl, Below.refl _ _⟩
    case round =>
      obtain ⟨k, hk, rfl, hBel⟩ := hrel
      have HBel := Hid.mk' hBel
      by_cases hlt : k < L.length
      · have hkn : (k : Int) < (L.length : Int) := by omega
        rcases (X9.out.below hBel).2.2 with h0 | ⟨bb, off, rfl, hblt, hcl⟩
        · omega
        obtain ⟨g0, g1, g2, g3, g4⟩ := hcl k hlt
        obtain ⟨r1, r2, r3, r4⟩ := M9.out.below hBel
        have hsl : w9.heap.size < wr.heap.size := World.block_lt_of_cell? wr _ r1
        have ne := Ext.there wr
        obtain ⟨q, hq⟩ : ∃ q, (lf L k).m = q := ⟨_, rfl⟩
        rw [hq] at g1 g2 g3 g4
        have s1 : ∀ u : Ext wr, u.1.cell? ⟨bb, off + k * 5 + 1, none⟩ = some (.int .i64 q.x) := fun u => (u.cell hblt).trans g1
        have s2 : ∀ u : Ext wr, u.1.cell? ⟨bb, off + k * 5 + 2, none⟩ = some (.int .i64 q.y) := fun u => (u.cell hblt).trans g2
        have s3 : ∀ u : Ext wr, u.1.cell? ⟨bb, off + k * 5 + 3, none⟩ = some (.int .i64 q.d) := fun u => (u.cell hblt).trans g3
        have s4 : ∀ u : Ext wr, u.1.cell? ⟨bb, off + k * 5 + 4, none⟩ = some (.int .i64 q.e) := fun u => (u.cell hblt).trans g4
        have v1 : ∀ u : Ext wr, u.1.cell? ⟨w9.heap.size, 0, none⟩ = some (.int .i64 b.x) := fun u => (u.cell hsl).trans r1
        have v2 : ∀ u : Ext wr, u.1.cell? ⟨w9.heap.size, 1, none⟩ = some (.int .i64 b.y) := fun u => (u.cell hsl).trans r2
        have v3 : ∀ u : Ext wr, u.1.cell? ⟨w9.heap.size, 2, none⟩ = some (.int .i64 b.d) := fun u => (u.cell hsl).trans r3
        have v4 : ∀ u : Ext wr, u.1.cell? ⟨w9.heap.size, 3, none⟩ = some (.int .i64 b.e) := fun u => (u.cell hsl).trans r4
        obtain ⟨cc, hcc⟩ : ∃ cc, M.cmp o ⟨q.x, q.y, q.d, q.e⟩ ⟨b.x, b.y, b.d, b.e⟩ = cc := ⟨_, rfl⟩
        have hcl0 : ¬ 0 ≤ cc := by
          have := HAT.out k hlt
          rw [hq] at this
          have h2 : M.cmp o q b = cc := hcc
          omega
        clear hcl g0 g1 g2 g3 g4 r1 r2 r3 r4 hBel hq
        go_wp2_with fail
        refine wp_region_ext (by kernel_rfl) (by kernel_rfl) ?_
        repeat (go_big_quiet_step (first | (go_at_call 14; refine ext_grows (monCmpI_of (by with_reducible assumption) _)) | fail))
        refine wpQuiet_nil ?_
        rintro _ ⟨u, rfl⟩
        have HU := Hid.mk' u.2
        clear s1 s2 s3 s4 v1 v2 v3 v4 ne
        go_wp2
        go_roundw
        case rel => exact ⟨k + 1, by omega, by go_num, HBel.out.trans (HU.out.mono HBel.out.size)⟩
        case measure => simp [intOf]; omega
      · have hie : k = L.length := by omega
        subst hie
        have hnl : ¬ (L.length : Int) < (L.length : Int) := by omega
        have RAk := Hid.mk' (RA9.out.below hBel)
        have RBk := Hid.mk' (RB9.out.below hBel)
        have Xk := Hid.mk' (X9.out.below hBel)
        have Bk := Hid.mk' (bel_next B9.out hBel)
        clear hBel HBel RA9 RB9 X9 B9 M9
        go_wp2_with fail
        refine (D5.out wr RBk.out RAk.out).mono ?_
        rintro e wB ⟨ya, yc, rfl, b2, hy⟩
        have RAm := Hid.mk' (RAk.out.below b2)
        have Xm := Hid.mk' (Xk.out.below b2)
        have Ym := Hid.mk' hy
        have Bm := Hid.mk' (bel_next Bk.out b2)
        clear b2 hy RAk RBk Xk Bk
        go_wp2_with fail
        refine (D6.out wB RAm.out RAm.out).mono ?_
        rintro e wC ⟨za, zc, rfl, b2, hz⟩
        have Xn := Hid.mk' (Xm.out.below b2)
        have Yn := Hid.mk' (Ym.out.below b2)
        have Bn := Hid.mk' (bel_next Bm.out b2)
        clear b2 hz RAm Xm Ym Bm
        go_wp2_with fail
        refine (scI_L 100 Xn.out).mono ?_
        rw [HSC.out]
        rintro e wD ⟨ua, uc, rfl, b2, hu⟩
        have Yo := Hid.mk' (Yn.out.below b2)
        have Uo := Hid.mk' hu
        have Bo := Hid.mk' (bel_next Bn.out b2)
        clear b2 hu Xn Yn Bn
        go_wp2_with fail
        refine (he_L Yo.out Uo.out).mono ?_
        rw [sq_same]
        rintro e wE ⟨rfl, b2⟩
        have Bp := Hid.mk' (bel_next Bo.out b2)
        clear b2 Yo Uo
        go_wp2
        go_ret
        exact ⟨rfl, Bp.out⟩
end Go.Proofs.YtbicmmbajknceaaGreat
