/-
  The program's texts of monomials (MonText).
  The program reads monomials (leadingDigits, monGuess, MonRead).
  Rows of texts.
-/
import Derived.Test.YtkcmamepoplcdaaGreatDoorGac
import Derived.Test.YtkcmamepoplcdaaGreatDoorGae
import Derived.Shelf.Lay
import Derived.Shelf.Small.Wraps
import Derived.Shelf.Strconv.AtoiAll
import Derived.Shelf.Strconv.ErrVarAll
import Derived.Ground.NamesProg
import Derived.Test.YtkcmamepoplcdaaGreatDoorGad
import Derived.Laws.MakeOwn
namespace Go.Proofs.YtkcmamepoplcdaaGreatDoor
open Go.RowKit
set_option linter.unusedVariables false
set_option linter.unusedSimpArgs false

theorem bc_snoc (l : List UInt8) (c : UInt8) : Lib.byteCells l ++ [.int .u8 (c.toNat : Int)] = Lib.byteCells (l ++ [c]) := by rw [Lib.byteCells_append]; rfl
theorem bc_str (l : List UInt8) (s : List UInt8) : Lib.byteCells l ++ Lib.strCells ⟨s.toArray⟩ = Lib.byteCells (l ++ s) := by rw [Lib.strCells_eq, Lib.byteCells_append]
theorem bld_byte {B b : Nat} {l : List UInt8} {c : UInt8} {w : World} (h : Lib.BuilderAt 94 5 B b (.pointer (some ⟨b, 0, none⟩)) (Lib.byteCells l ++ [.int .u8 (c.toNat : Int)]) w) : Lib.IsBuilder 94 5 B b (Lib.byteCells (l ++ [c])) w := by
  rw [bc_snoc] at h; exact .inr h
theorem bld_str {B b : Nat} {l s : List UInt8} {w : World} (h : Lib.BuilderAt 94 5 B b (.pointer (some ⟨b, 0, none⟩)) (Lib.byteCells l ++ Lib.strCells ⟨s.toArray⟩) w) : Lib.IsBuilder 94 5 B b (Lib.byteCells (l ++ s)) w := by
  rw [bc_str] at h; exact .inr h
theorem bld_fresh {w w' : World} (h : Below (w.alloc (.cells #[.pointer none, .slice none 0 0] 94)).heap.size (w.alloc (.cells #[.pointer none, .slice none 0 0] 94)) w') : Lib.IsBuilder 94 5 w.heap.size w.heap.size (Lib.byteCells []) w' :=
  .inl ⟨Nat.le_refl _, .slice none 0 0, (h.block w.heap.size (by simp)).trans (Go.heap_alloc_new w _), World.ownsRow_nil _ _ _ _, by simp [Value.ownBlock]⟩
/-- one factor is written. -/
def Fac (B : Nat) (w : World) (l : List UInt8) (wr : World) : Prop := Lib.IsBuilder 94 5 B B (Lib.byteCells l) wr ∧ Below B w wr
theorem Fac.size {B : Nat} {w wr : World} {l : List UInt8} (h : Fac B w l wr) (hB : B ≤ w.heap.size) : B ≤ wr.heap.size := Nat.le_trans hB h.2.size
theorem Fac.byte {B : Nat} {w wr : World} {l : List UInt8} (h : Fac B w l wr) (hB : B ≤ w.heap.size) (hl : l.length ≤ 100) (c : UInt8) : Calls Tryz.prog 128 #[.pointer (some ⟨B, 0, none⟩), .int .u8 (c.toNat : Int)] wr fun e w' => e = .returned .nilIface ∧ Fac B w (l ++ [c]) w' :=
  (bWriteByte B B _ _ wr h.1 (by rw [Lib.byteCells_length]; omega) (h.size hB)).mono fun e w' ⟨he, h1, h2⟩ => ⟨he, bld_byte h1, h.2.trans h2⟩
theorem Fac.str {B : Nat} {w wr : World} {l : List UInt8} (h : Fac B w l wr) (hB : B ≤ w.heap.size) (hl : l.length ≤ 100) (s : List UInt8) (hs : s.length ≤ 100) : Calls Tryz.prog 85 #[.pointer (some ⟨B, 0, none⟩), .string ⟨s.toArray⟩] wr fun e w' => (∃ v, e = .returned v) ∧ Fac B w (l ++ s) w' :=
  (bWriteString B B _ _ wr h.1 (by
    rw [Lib.byteCells_length]
    have : (⟨s.toArray⟩ : ByteArray).size = s.length := by simp [ByteArray.size]
    omega) (h.size hB)).mono fun e w' ⟨he, h1, h2⟩ => ⟨⟨_, he⟩, bld_str h1, h.2.trans h2⟩
set_option maxRecDepth 100000 in
set_option maxHeartbeats 4000000 in
theorem monTextI (x y d e : Int) (w : World) :
    Calls Tryz.prog 93 #[.agg #[.int .i64 x, .int .i64 y, .int .i64 d, .int .i64 e]] w fun r w' => r = .returned (.string ⟨(monT ⟨x, y, d, e⟩).toArray⟩) ∧ Below w.heap.size w w' := by
  obtain ⟨ok, hok⟩ : ∃ b, M.ok ⟨x, y, d, e⟩ = b := ⟨_, rfl⟩
  have HOK := Hid.mk' hok
  clear hok
  cases ok
  · have he := monT_no HOK.out
    have HE := Hid.mk' he
    clear he
    go_enter Tryz.func93, Tryz.ntmps93
    go_wp2_with fail
    refine (monOkI_of HOK.out _).mono ?_
    rintro r w1 ⟨rfl, hb⟩
    go_wp2
    go_ret
    exact ⟨by rw [HE.out]; rfl, bel_next (bel_one w _) hb⟩
  · obtain ⟨x1, x2, y1, y2, d1, d2, e1, e2⟩ := M.ok_iff.1 HOK.out
    simp only at x1 x2 y1 y2 d1 d2 e1 e2
    have i0 : ∀ w : World, (Instr.index 131 (.agg #[.int .i64 x, .int .i64 y, .int .i64 d, .int .i64 e]) (.int .i64 0)).run Tryz.prog w = .ok (.int .i64 x) w := fun _ => by kernel_rfl
    have i1 : ∀ w : World, (Instr.index 131 (.agg #[.int .i64 x, .int .i64 y, .int .i64 d, .int .i64 e]) (.int .i64 1)).run Tryz.prog w = .ok (.int .i64 y) w := fun _ => by kernel_rfl
    have i2 : ∀ w : World, (Instr.index 131 (.agg #[.int .i64 x, .int .i64 y, .int .i64 d, .int .i64 e]) (.int .i64 2)).run Tryz.prog w = .ok (.int .i64 d) w := fun _ => by kernel_rfl
    have i3 : ∀ w : World, (Instr.index 131 (.agg #[.int .i64 x, .int .i64 y, .int .i64 d, .int .i64 e]) (.int .i64 3)).run Tryz.prog w = .ok (.int .i64 e) w := fun _ => by kernel_rfl
    have j0 : ∀ w : World, (Instr.index 9 (.string ⟨#[120, 121, 100, 101]⟩) (.int .i64 0)).run Tryz.prog w = .ok (.int .u8 ((120 : UInt8).toNat : Int)) w := fun _ => by kernel_rfl
    have j1 : ∀ w : World, (Instr.index 9 (.string ⟨#[120, 121, 100, 101]⟩) (.int .i64 1)).run Tryz.prog w = .ok (.int .u8 ((121 : UInt8).toNat : Int)) w := fun _ => by kernel_rfl
    have j2 : ∀ w : World, (Instr.index 9 (.string ⟨#[120, 121, 100, 101]⟩) (.int .i64 2)).run Tryz.prog w = .ok (.int .u8 ((100 : UInt8).toNat : Int)) w := fun _ => by kernel_rfl
    have j3 : ∀ w : World, (Instr.index 9 (.string ⟨#[120, 121, 100, 101]⟩) (.int .i64 3)).run Tryz.prog w = .ok (.int .u8 ((101 : UInt8).toNat : Int)) w := fun _ => by kernel_rfl
    have HLEN := Hid.mk' (txTo_len HOK.out)
    have HT := Hid.mk' (show ∀ k, txTo ⟨x, y, d, e⟩ (k + 1) = txTo ⟨x, y, d, e⟩ k ++ fpw (ltr k) (cnt x y d e k) from fun k => rfl)
    have HS4 := Hid.mk' (show txTo ⟨x, y, d, e⟩ 4 = monS ⟨x, y, d, e⟩ from rfl)
    have HS0 := Hid.mk' (show txTo ⟨x, y, d, e⟩ 0 = [] from rfl)
    obtain ⟨Res, hRes⟩ : ∃ R, monT ⟨x, y, d, e⟩ = R := ⟨_, rfl⟩
    rw [hRes]
    have HR1 := Hid.mk' (monT_one (m := ⟨x, y, d, e⟩) HOK.out)
    have HR2 := Hid.mk' (monT_is (m := ⟨x, y, d, e⟩) HOK.out)
    rw [hRes] at HR1 HR2
    clear hRes
    obtain ⟨tx, htx⟩ : ∃ f, txTo ⟨x, y, d, e⟩ = f := ⟨_, rfl⟩
    obtain ⟨mS, hmS⟩ : ∃ f, monS ⟨x, y, d, e⟩ = f := ⟨_, rfl⟩
    rw [htx] at HLEN HT HS4 HS0
    rw [hmS] at HS4 HR1 HR2
    clear htx hmS
    go_enter Tryz.func93, Tryz.ntmps93
    go_wp2_with fail
    refine (monOkI_of HOK.out _).mono ?_
    rintro r w1 ⟨rfl, hb⟩
    have hb1 := bel_next (bel_one w (.cells #[.int .i64 x, .int .i64 y, .int .i64 d, .int .i64 e] 77)) hb
    have HB1 := Hid.mk' hb1
    have c0 : w1.cell? ⟨w.heap.size, 0, none⟩ = some (.int .i64 x) := (hb.cell (p := ⟨w.heap.size, 0, none⟩) (by simp)).trans (by rw [World.cell?_alloc_at _ _ _ _ rfl]; rfl)
    have c1 : w1.cell? ⟨w.heap.size, 1, none⟩ = some (.int .i64 y) := (hb.cell (p := ⟨w.heap.size, 1, none⟩) (by simp)).trans (by rw [World.cell?_alloc_at _ _ _ _ rfl]; rfl)
    have c2 : w1.cell? ⟨w.heap.size, 2, none⟩ = some (.int .i64 d) := (hb.cell (p := ⟨w.heap.size, 2, none⟩) (by simp)).trans (by rw [World.cell?_alloc_at _ _ _ _ rfl]; rfl)
    have c3 : w1.cell? ⟨w.heap.size, 3, none⟩ = some (.int .i64 e) := (hb.cell (p := ⟨w.heap.size, 3, none⟩) (by simp)).trans (by rw [World.cell?_alloc_at _ _ _ _ rfl]; rfl)
    have hws : w.heap.size < w1.heap.size := Nat.lt_of_lt_of_le (by simp) hb.size
    clear hb hb1
    go_wp2_with fail
    refine (countsI x y d e _).mono ?_
    rintro r w2 ⟨rfl, hb2⟩
    have HF0 : Hid (Fac w1.heap.size w1 (tx 0) w2) := by rw [HS0.out]; exact ⟨bld_fresh hb2, Below.trans ((Below.refl _ w1).alloc (Nat.le_refl _) _) (hb2.mono (by simp))⟩
    clear hb2 c0 c1 c2 c3
    obtain ⟨B, hB⟩ : ∃ B, w1.heap.size = B := ⟨_, rfl⟩
    rw [hB] at HF0
    have hBw : B ≤ w1.heap.size := by omega
    have hwB : w.heap.size ≤ B := by omega
    simp only [hB]
    clear hB
    go_wp2
    go_loopw [11] (fun v wr => ∃ k : Nat, k ≤ 4 ∧ v = .int .i64 (k : Int) ∧ Hid (Fac B w1 (tx k) wr)) (fun v _ => 4 - (intOf v).toNat)
    case atStart => exact ⟨0, by omega, rfl, HF0⟩
    case round =>
      obtain ⟨k, hk, rfl, HF⟩ := hrel
      by_cases hk4 : k = 4
      · subst hk4
        rw [HS4.out] at HF
        have hl12 : mS.length ≤ 12 := by rw [← HS4.out]; exact HLEN.out 4
        go_wp2_with fail
        refine (bLen B B _ _ HF.out.1).mono ?_
        rw [Lib.byteCells_length]
        rintro r w9 ⟨rfl, hw9⟩
        obtain rfl := hw9.symm
        clear hw9
        by_cases h0 : mS = []
        · have hl0 : mS.length = 0 := by rw [h0]; rfl
          have hR := HR1.out h0
          have HR := Hid.mk' hR
          clear hR h0
          rw [hl0]
          go_wp2
          go_ret
          exact ⟨by rw [HR.out]; rfl, HB1.out.trans (HF.out.2.mono (by omega))⟩
        · have hl0 : ((mS.length : Int) == 0) = false := beq_eq_false_iff_ne.2 (fun h => h0 (List.length_eq_zero_iff.1 (by omega)))
          have hR := HR2.out h0
          have HR := Hid.mk' hR
          clear hR h0
          go_wp2_with fail
          refine (bString B B mS _ HF.out.1 (HF.out.size hBw)).mono ?_
          rintro r w8 ⟨rfl, hb8⟩
          go_wp2
          go_ret
          exact ⟨by rw [HR.out]; rfl, HB1.out.trans ((HF.out.2.trans hb8).mono (by omega))⟩
      · have hkl : (k : Int) < 4 := by omega
        have hlk : (tx k).length ≤ 12 := by have := HLEN.out k; omega
        have key : ∀ (c : UInt8) (n : Int), ltr k = c → cnt x y d e k = n → Hid (tx (k + 1) = tx k ++ fpw c n) := fun c n h1 h2 => by rw [HT.out, h1, h2]; exact Hid.mk' rfl
        rcases (show k = 0 ∨ k = 1 ∨ k = 2 ∨ k = 3 by omega) with rfl | rfl | rfl | rfl
        · have HK := key 120 x rfl rfl
          clear key
          by_cases h0 : x = 0
          · subst h0
            have hq : tx 1 = tx 0 := by rw [HK.out]; exact List.append_nil _
            have HQ := Hid.mk' hq
            clear hq
            go_wp2
            go_roundw
            case rel => exact ⟨1, by omega, by go_num, by rw [HQ.out]; exact HF⟩
            case measure => simp [intOf]
          · by_cases h1 : x = 1
            · subst h1
              go_wp2_with fail
              refine (HF.out.byte hBw (by omega) 120).mono ?_
              rintro r w3 ⟨rfl, hF3⟩
              have HF3 := Hid.mk' hF3
              clear hF3
              have hq : tx 1 = tx 0 ++ [120] := HK.out
              have HQ := Hid.mk' hq
              clear hq
              go_wp2
              go_roundw
              case rel => exact ⟨1, by omega, by go_num, by rw [HQ.out]; exact HF3⟩
              case measure => simp [intOf]
            · obtain ⟨n, rfl⟩ : ∃ n : Nat, x = (n : Int) := ⟨x.toNat, by omega⟩
              have hn0 : (0 : Int) < (n : Int) := by omega
              have hn1 : (1 : Int) < (n : Int) := by omega
              have hq : tx 1 = tx 0 ++ [120] ++ Lib.decDigits n := by rw [HK.out, fpw_more (by omega)]; simp
              have HQ := Hid.mk' hq
              clear hq
              obtain ⟨D, hD⟩ : ∃ D, Lib.decDigits n = D := ⟨_, rfl⟩
              have hl : D.length ≤ 2 := by rw [← hD]; exact dec_len2 (by omega)
              have hci := fun u => itoaSm n (by omega) u
              rw [hD] at HQ
              simp only [hD] at hci
              have HCI := Hid.mk' hci
              clear hci hD
              go_wp2_with fail
              refine (HF.out.byte hBw (by omega) 120).mono ?_
              rintro r w3 ⟨rfl, hF3⟩
              have HF3 := Hid.mk' hF3
              clear hF3
              go_wp2_with fail
              refine (HCI.out _).mono ?_
              rintro r w4 ⟨rfl, hw4⟩
              obtain rfl := hw4.symm
              clear hw4
              go_wp2_with fail
              refine (HF3.out.str hBw (by simp; omega) D (by omega)).mono ?_
              rintro r w5 ⟨⟨v5, rfl⟩, hF5⟩
              have HF5 := Hid.mk' hF5
              clear hF5
              go_wp2
              go_roundw
              case rel => exact ⟨1, by omega, by go_num, by rw [HQ.out]; exact HF5⟩
              case measure => simp [intOf]
        · have HK := key 121 y rfl rfl
          clear key
          by_cases h0 : y = 0
          · subst h0
            have hq : tx 2 = tx 1 := by rw [HK.out]; exact List.append_nil _
            have HQ := Hid.mk' hq
            clear hq
            go_wp2
            go_roundw
            case rel => exact ⟨2, by omega, by go_num, by rw [HQ.out]; exact HF⟩
            case measure => simp [intOf]
          · by_cases h1 : y = 1
            · subst h1
              go_wp2_with fail
              refine (HF.out.byte hBw (by omega) 121).mono ?_
              rintro r w3 ⟨rfl, hF3⟩
              have HF3 := Hid.mk' hF3
              clear hF3
              have hq : tx 2 = tx 1 ++ [121] := HK.out
              have HQ := Hid.mk' hq
              clear hq
              go_wp2
              go_roundw
              case rel => exact ⟨2, by omega, by go_num, by rw [HQ.out]; exact HF3⟩
              case measure => simp [intOf]
            · obtain ⟨n, rfl⟩ : ∃ n : Nat, y = (n : Int) := ⟨y.toNat, by omega⟩
              have hn0 : (0 : Int) < (n : Int) := by omega
              have hn1 : (1 : Int) < (n : Int) := by omega
              have hq : tx 2 = tx 1 ++ [121] ++ Lib.decDigits n := by rw [HK.out, fpw_more (by omega)]; simp
              have HQ := Hid.mk' hq
              clear hq
              obtain ⟨D, hD⟩ : ∃ D, Lib.decDigits n = D := ⟨_, rfl⟩
              have hl : D.length ≤ 2 := by rw [← hD]; exact dec_len2 (by omega)
              have hci := fun u => itoaSm n (by omega) u
              rw [hD] at HQ
              simp only [hD] at hci
              have HCI := Hid.mk' hci
              clear hci hD
              go_wp2_with fail
              refine (HF.out.byte hBw (by omega) 121).mono ?_
              rintro r w3 ⟨rfl, hF3⟩
              have HF3 := Hid.mk' hF3
              clear hF3
              go_wp2_with fail
              refine (HCI.out _).mono ?_
              rintro r w4 ⟨rfl, hw4⟩
              obtain rfl := hw4.symm
              clear hw4
              go_wp2_with fail
              refine (HF3.out.str hBw (by simp; omega) D (by omega)).mono ?_
              rintro r w5 ⟨⟨v5, rfl⟩, hF5⟩
              have HF5 := Hid.mk' hF5
              clear hF5
              go_wp2
              go_roundw
              case rel => exact ⟨2, by omega, by go_num, by rw [HQ.out]; exact HF5⟩
              case measure => simp [intOf]
        · have HK := key 100 d rfl rfl
          clear key
          by_cases h0 : d = 0
          · subst h0
            have hq : tx 3 = tx 2 := by rw [HK.out]; exact List.append_nil _
            have HQ := Hid.mk' hq
            clear hq
            go_wp2
            go_roundw
            case rel => exact ⟨3, by omega, by go_num, by rw [HQ.out]; exact HF⟩
            case measure => simp [intOf]
          · by_cases h1 : d = 1
            · subst h1
              go_wp2_with fail
              refine (HF.out.byte hBw (by omega) 100).mono ?_
              rintro r w3 ⟨rfl, hF3⟩
              have HF3 := Hid.mk' hF3
              clear hF3
              have hq : tx 3 = tx 2 ++ [100] := HK.out
              have HQ := Hid.mk' hq
              clear hq
              go_wp2
              go_roundw
              case rel => exact ⟨3, by omega, by go_num, by rw [HQ.out]; exact HF3⟩
              case measure => simp [intOf]
            · obtain ⟨n, rfl⟩ : ∃ n : Nat, d = (n : Int) := ⟨d.toNat, by omega⟩
              have hn0 : (0 : Int) < (n : Int) := by omega
              have hn1 : (1 : Int) < (n : Int) := by omega
              have hq : tx 3 = tx 2 ++ [100] ++ Lib.decDigits n := by rw [HK.out, fpw_more (by omega)]; simp
              have HQ := Hid.mk' hq
              clear hq
              obtain ⟨D, hD⟩ : ∃ D, Lib.decDigits n = D := ⟨_, rfl⟩
              have hl : D.length ≤ 2 := by rw [← hD]; exact dec_len2 (by omega)
              have hci := fun u => itoaSm n (by omega) u
              rw [hD] at HQ
              simp only [hD] at hci
              have HCI := Hid.mk' hci
              clear hci hD
              go_wp2_with fail
              refine (HF.out.byte hBw (by omega) 100).mono ?_
              rintro r w3 ⟨rfl, hF3⟩
              have HF3 := Hid.mk' hF3
              clear hF3
              go_wp2_with fail
              refine (HCI.out _).mono ?_
              rintro r w4 ⟨rfl, hw4⟩
              obtain rfl := hw4.symm
              clear hw4
              go_wp2_with fail
              refine (HF3.out.str hBw (by simp; omega) D (by omega)).mono ?_
              rintro r w5 ⟨⟨v5, rfl⟩, hF5⟩
              have HF5 := Hid.mk' hF5
              clear hF5
              go_wp2
              go_roundw
              case rel => exact ⟨3, by omega, by go_num, by rw [HQ.out]; exact HF5⟩
              case measure => simp [intOf]
        · have HK := key 101 e rfl rfl
          clear key
          by_cases h0 : e = 0
          · subst h0
            have hq : tx 4 = tx 3 := by rw [HK.out]; exact List.append_nil _
            have HQ := Hid.mk' hq
            clear hq
            go_wp2
            go_roundw
            case rel => exact ⟨4, by omega, by go_num, by rw [HQ.out]; exact HF⟩
            case measure => simp [intOf]
          · by_cases h1 : e = 1
            · subst h1
              go_wp2_with fail
              refine (HF.out.byte hBw (by omega) 101).mono ?_
              rintro r w3 ⟨rfl, hF3⟩
              have HF3 := Hid.mk' hF3
              clear hF3
              have hq : tx 4 = tx 3 ++ [101] := HK.out
              have HQ := Hid.mk' hq
              clear hq
              go_wp2
              go_roundw
              case rel => exact ⟨4, by omega, by go_num, by rw [HQ.out]; exact HF3⟩
              case measure => simp [intOf]
            · obtain ⟨n, rfl⟩ : ∃ n : Nat, e = (n : Int) := ⟨e.toNat, by omega⟩
              have hn0 : (0 : Int) < (n : Int) := by omega
              have hn1 : (1 : Int) < (n : Int) := by omega
              have hq : tx 4 = tx 3 ++ [101] ++ Lib.decDigits n := by rw [HK.out, fpw_more (by omega)]; simp
              have HQ := Hid.mk' hq
              clear hq
              obtain ⟨D, hD⟩ : ∃ D, Lib.decDigits n = D := ⟨_, rfl⟩
              have hl : D.length ≤ 2 := by rw [← hD]; exact dec_len2 (by omega)
              have hci := fun u => itoaSm n (by omega) u
              rw [hD] at HQ
              simp only [hD] at hci
              have HCI := Hid.mk' hci
              clear hci hD
              go_wp2_with fail
              refine (HF.out.byte hBw (by omega) 101).mono ?_
              rintro r w3 ⟨rfl, hF3⟩
              have HF3 := Hid.mk' hF3
              clear hF3
              go_wp2_with fail
              refine (HCI.out _).mono ?_
              rintro r w4 ⟨rfl, hw4⟩
              obtain rfl := hw4.symm
              clear hw4
              go_wp2_with fail
              refine (HF3.out.str hBw (by simp; omega) D (by omega)).mono ?_
              rintro r w5 ⟨⟨v5, rfl⟩, hF5⟩
              have HF5 := Hid.mk' hF5
              clear hF5
              go_wp2
              go_roundw
              case rel => exact ⟨4, by omega, by go_num, by rw [HQ.out]; exact HF5⟩
              case measure => simp [intOf]
end Go.Proofs.YtkcmamepoplcdaaGreatDoor
namespace Go.Proofs.YtkcmamepoplcdaaGreatDoor
open Go.Shelf Go.RowKit
set_option linter.unusedVariables false
set_option linter.unusedSimpArgs false

theorem ba_size (l : List UInt8) : (⟨l.toArray⟩ : ByteArray).size = l.length := by simp [ByteArray.size]
theorem str_index {l : List UInt8} {k : Nat} {c : UInt8} (h : l[k]? = some c) (u : World) : (Instr.index 9 (.string ⟨l.toArray⟩) (.int .i64 (k : Int))).run Tryz.prog u = .ok (.int .u8 (c.toNat : Int)) u := by
  obtain ⟨hk, e⟩ := List.getElem?_eq_some_iff.1 h
  rw [run_index_string _ _ _ _ _ Tryz.underlying9, dif_pos ⟨by omega, by rw [ba_size]; omega⟩]
  subst e
  rfl
theorem str_to {l : List UInt8} {k : Nat} (h : k ≤ l.length) (u : World) : (Instr.slice 9 (.string ⟨l.toArray⟩) none (some (.int .i64 (k : Int))) none).run Tryz.prog u = .ok (.string ⟨(l.take k).toArray⟩) u := by
  rw [run_slice_string_to_if _ _ _ _ _ Tryz.underlying9, if_pos ⟨by omega, by rw [ba_size]; omega⟩]
  congr 2
  apply ByteArray.ext
  simp
theorem str_from {l : List UInt8} {k : Nat} (h : k ≤ l.length) (u : World) : (Instr.slice 9 (.string ⟨l.toArray⟩) (some (.int .i64 (k : Int))) none none).run Tryz.prog u = .ok (.string ⟨(l.drop k).toArray⟩) u := by
  rw [run_slice_string_from_if _ _ _ _ _ Tryz.underlying9, if_pos ⟨by omega, by rw [ba_size]; omega⟩]
  congr 2
  apply ByteArray.ext
  simp [ba_size]
  exact List.take_of_length_le (by simp)
theorem lead_take {l : List UInt8} {k : Nat} (h1 : ∀ j c, j < k → l[j]? = some c → isD c = true) (h2 : ∀ c, l[k]? = some c → isD c = false) (hk : k ≤ l.length) : l.take k = lead l := by
  have e : l = l.take k ++ l.drop k := (List.take_append_drop k l).symm
  have := lead_app (d := l.take k) (t := l.drop k) (fun c hc => by
    obtain ⟨j, hj, e⟩ := List.getElem_of_mem hc
    rw [List.length_take] at hj
    exact h1 j c (by omega) (by rw [← e, List.getElem_take]; exact List.getElem?_eq_getElem _)) (fun c r e => h2 c (by
      have : (l.drop k)[0]? = some c := by rw [e]; rfl
      rw [List.getElem?_drop] at this
      simpa using this))
  rw [← e] at this
  exact this.symm
set_option maxRecDepth 100000 in
set_option maxHeartbeats 2000000 in
theorem leadI (l : List UInt8) (hl : l.length ≤ 1000000) (w : World) :
    Calls Tryz.prog 158 #[.string ⟨l.toArray⟩] w fun r w' => r = .returned (.string ⟨(lead l).toArray⟩) ∧ w' = w := by
  go_enter Tryz.func158, Tryz.ntmps158
  go_wp2
  go_loop [3] (fun v => ∃ k : Nat, k ≤ l.length ∧ v = .int .i64 (k : Int) ∧ Hid (∀ j c, j < k → l[j]? = some c → isD c = true)) (fun v => l.length - (intOf v).toNat)
  case atStart => exact ⟨0, Nat.zero_le _, rfl, fun j c hj => by omega⟩
  case round =>
    obtain ⟨k, hk, rfl, HD⟩ := hrel
    have hlI : (l.length : Int) ≤ 1000000 := by omega
    by_cases hkl : k < l.length
    · have hkI : (k : Int) < (l.length : Int) := by omega
      obtain ⟨c, hc⟩ : ∃ c, l[k]? = some c := ⟨_, List.getElem?_eq_getElem hkl⟩
      have hix := str_index hc
      have HC := Hid.mk' hc
      clear hc
      obtain ⟨z, hz⟩ : ∃ z : Nat, c.toNat = z := ⟨_, rfl⟩
      have hdz : isD c = decide (48 ≤ z ∧ z ≤ 57) := by unfold isD; rw [hz]
      have HDZ := Hid.mk' hdz
      rw [hz] at hix
      clear hz hdz
      have fin : ¬ (48 ≤ z ∧ z ≤ 57) → Hid (l.take k = lead l) := fun hn => Hid.mk' (lead_take HD.out (fun c' hc' => by
        have e := HC.out.symm.trans hc'
        cases e
        rw [HDZ.out]; exact decide_eq_false hn) hk)
      have hto := fun u => str_to (l := l) (k := k) hk u
      by_cases h1 : 48 ≤ z
      · have h1I : (48 : Int) ≤ (z : Int) := by omega
        by_cases h2 : z ≤ 57
        · have h2I : (z : Int) ≤ 57 := by omega
          have HN : Hid (∀ j c, j < k + 1 → l[j]? = some c → isD c = true) := fun j c' hj hc' => by
            by_cases e : j = k
            · subst e
              have e := HC.out.symm.trans hc'
              cases e
              rw [HDZ.out]; exact decide_eq_true ⟨h1, h2⟩
            · exact HD.out j c' (by omega) hc'
          clear fin hto
          go_wp2
          go_round
          case rel => exact ⟨k + 1, by omega, by go_num, HN⟩
          case measure => simp [intOf]; omega
        · have h2I : ¬ (z : Int) ≤ 57 := by omega
          have HF := fin (fun q => h2 q.2)
          clear fin
          go_wp2
          go_ret
          exact ⟨by rw [← HF.out]; rfl, rfl⟩
      · have h1I : ¬ (48 : Int) ≤ (z : Int) := by omega
        have HF := fin (fun q => h1 q.1)
        clear fin
        go_wp2
        go_ret
        exact ⟨by rw [← HF.out]; rfl, rfl⟩
    · have hke : k = l.length := by omega
      have hnl : ¬ (k : Int) < (l.length : Int) := by omega
      have HF : Hid (l.take k = lead l) := Hid.mk' (lead_take HD.out (fun c hc => by
        have := (List.getElem?_eq_some_iff.1 hc).1
        omega) hk)
      have hto := fun u => str_to (l := l) (k := k) hk u
      clear hke
      go_wp2
      go_ret
      exact ⟨by rw [← HF.out]; rfl, rfl⟩
end Go.Proofs.YtkcmamepoplcdaaGreatDoor
namespace Go.Proofs.YtkcmamepoplcdaaGreatDoor
open Go.RowKit
set_option linter.unusedVariables false
theorem infoSt : (Tryz.prog.info? 9).map (fun i => (i.zero, i.size, i.bytes)) = some (some (.string ⟨#[]⟩), 1, 16) := by kernel_rfl
def stL (xs : List (List UInt8)) : List Value := xs.map fun l => Value.string ⟨l.toArray⟩
theorem stL_len (xs : List (List UInt8)) : (stL xs).length = xs.length := by simp [stL]
theorem stL_app (a b : List (List UInt8)) : stL (a ++ b) = stL a ++ stL b := by simp [stL]
theorem one_st (s : ByteArray) : ∀ u ∈ [Value.string s], u.oneCell' = true := fun u hu => by
  rw [List.mem_singleton] at hu
  subst hu
  rfl
/-- a row of texts in a block of its own. -/
abbrev OwT (lo : Nat) (v : Value) (xs : List (List UInt8)) (w : World) : Prop := w.ownsRow lo 9 1 v xs.length (stL xs)
theorem owt_none (w : World) (lo : Nat) (h : lo ≤ w.heap.size) : OwT lo (.slice (some ⟨w.heap.size, 0, none⟩) 0 0) [] (w.alloc (.cells #[] 9)) := World.ownsRow_lit _ _ _ h (Nat.zero_le _) rfl
theorem owt_len {lo : Nat} {g k cp : Nat} {xs : List (List UInt8)} {w : World} (h : OwT lo (.slice (some ⟨g, 0, none⟩) k cp) xs w) : k = xs.length ∧ lo ≤ g ∧ g < w.heap.size := by
  rcases h.2 with ⟨e, _⟩ | ⟨g', cap', cur, e, h2, h3, _⟩
  · cases e
  · cases e
    exact ⟨rfl, h2, (Array.getElem?_eq_some_iff.1 h3).1⟩
theorem owt_cell {lo : Nat} {g k cp : Nat} {xs : List (List UInt8)} {w : World} (h : OwT lo (.slice (some ⟨g, 0, none⟩) k cp) xs w) {i : Nat} {l : List UInt8} (hi : xs[i]? = some l) : w.cell? ⟨g, i, none⟩ = some (.string ⟨l.toArray⟩) := by
  have hl := (List.getElem?_eq_some_iff.1 hi).1
  obtain ⟨rfl, _⟩ := owt_len h
  have e := World.ownsRow.cellAt h i (by omega)
  rw [e]
  unfold stL
  rw [List.getElem?_map, hi]
  rfl
end Go.Proofs.YtkcmamepoplcdaaGreatDoor
