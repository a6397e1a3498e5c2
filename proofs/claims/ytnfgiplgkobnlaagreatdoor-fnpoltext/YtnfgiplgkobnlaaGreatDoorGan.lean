/-
  The library's strings.Builder, strconv.Itoa: contracts laid at this dump.
  The program's texts of monomials (MonText).
  The program reads monomials (leadingDigits, monGuess, MonRead).
-/
import Derived.Test.YtnfgiplgkobnlaaGreatDoorRows
import Derived.Shelf.Lay
import Derived.Shelf.Strings.Builder1
import Derived.Shelf.Strconv.Itoa3
import Derived.Ground.NamesProg
import Derived.Test.YtnfgiplgkobnlaaGreatDoorGak
import Derived.Test.YtnfgiplgkobnlaaGreatDoorGal
import Derived.Shelf.Small.Wraps
import Derived.Shelf.Strconv.AtoiAll
import Derived.Shelf.Strconv.ErrVarAll
namespace Go.Proofs.YtnfgiplgkobnlaaGreatDoor
open Go.Shelf Go.RowKit
set_option linter.unusedVariables false
def lay166_ren : Go.Shelf.Ren := ⟨fun | 0 => 0 | 1 => 1 | 2 => 2 | 103 => 102 | 122 => 89 | 125 => 132 | 128 => 154 | 129 => 136 | 143 => 77 | 156 => 22 | 165 => 44 | 166 => 45 | 167 => 71 | 169 => 46 | 170 => 72 | 171 => 42 | 172 => 51 | 197 => 76 | 205 => 125 | 206 => 144 | 210 => 126 | 215 => 112 | 217 => 119 | 219 => 96 | 224 => 121 | 225 => 120 | 240 => 73 | 241 => 74 | 243 => 69 | 244 => 78 | 245 => 79 | 246 => 92 | 247 => 97 | 260 => 95 | 266 => 140 | 267 => 122 | 276 => 93 | 277 => 94 | 279 => 98 | 280 => 99 | 281 => 100 | 282 => 101 | 283 => 115 | 284 => 116 | 285 => 117 | 286 => 118 | 287 => 123 | 314 => 141 | 316 => 124 | 317 => 135 | 318 => 137 | 319 => 138 | 320 => 139 | 321 => 142 | 322 => 143 | 329 => 160 | 330 => 161 | 337 => 157 | 338 => 158 | 347 => 165 | 348 => 166 | 349 => 167 | 350 => 168 | 351 => 169 | 352 => 170 | 353 => 171 | 354 => 172 | 355 => 173 | 356 => 174 | 357 => 175 | 358 => 176 | 359 => 177 | 360 => 178 | 361 => 179 | 362 => 180 | 363 => 183 | 364 => 181 | 365 => 182 | 366 => 184 | 367 => 194 | n => n, fun | 0 => 0 | 1 => 1 | 2 => 2 | 3 => 3 | 4 => 4 | 5 => 5 | 6 => 6 | 7 => 7 | 8 => 8 | 9 => 9 | 10 => 10 | 11 => 11 | 12 => 12 | 13 => 13 | 14 => 14 | 15 => 15 | 16 => 16 | 17 => 17 | 18 => 18 | 19 => 19 | 20 => 20 | 21 => 21 | 22 => 175 | 24 => 137 | 25 => 138 | 26 => 88 | 27 => 113 | 28 => 68 | 31 => 43 | 37 => 22 | 38 => 32 | 43 => 104 | 46 => 150 | 47 => 164 | 51 => 167 | 52 => 184 | 53 => 144 | 54 => 145 | 55 => 154 | 67 => 47 | 68 => 54 | 69 => 83 | 70 => 72 | 71 => 73 | 72 => 74 | 73 => 75 | 74 => 76 | 75 => 77 | 76 => 78 | 77 => 79 | 78 => 108 | 80 => 80 | 81 => 59 | 83 => 57 | 84 => 127 | 85 => 132 | 86 => 133 | 104 => 110 | 105 => 111 | 106 => 112 | 108 => 159 | 111 => 89 | 114 => 60 | 119 => 149 | 127 => 109 | 128 => 114 | 131 => 182 | 137 => 151 | 138 => 152 | 139 => 153 | 143 => 172 | 144 => 173 | 145 => 174 | 146 => 169 | 151 => 170 | 164 => 128 | 165 => 129 | 166 => 130 | 167 => 131 | 168 => 134 | 169 => 135 | 170 => 136 | 171 => 143 | 172 => 146 | 173 => 147 | 174 => 148 | 175 => 155 | 176 => 156 | 182 => 177 | 183 => 178 | 209 => 157 | 210 => 158 | 211 => 165 | 212 => 166 | 213 => 168 | 214 => 171 | 218 => 185 | 219 => 186 | 220 => 187 | 222 => 189 | 228 => 193 | 229 => 86 | 232 => 191 | 233 => 192 | 238 => 195 | 239 => 196 | 240 => 197 | 241 => 198 | 242 => 199 | 243 => 200 | 244 => 201 | 245 => 202 | 246 => 203 | 247 => 204 | 248 => 205 | 249 => 206 | n => n, fun n => n⟩
theorem lay166 : Lays.n166 Tryz.prog lay166_ren where
  mixed := by kernel_rfl
  f166 := Tryz.func45.trans (congrArg some (by kernel_rfl))
  f240 := Tryz.func73.trans (congrArg some (by kernel_rfl))
  f276 := Tryz.func93.trans (congrArg some (by kernel_rfl))
  t0 := Tryz.underlying0
  a0 := Tryz.isAgg0
  z0 := Tryz.sizeOf0
  v0 := Tryz.zeroValue0
  t3 := Tryz.underlying3
  a3 := Tryz.isAgg3
  z3 := Tryz.sizeOf3
  v3 := Tryz.zeroValue3
  t4 := Tryz.underlying4
  a4 := Tryz.isAgg4
  z4 := Tryz.sizeOf4
  v4 := Tryz.zeroValue4
  t9 := Tryz.underlying9
  a9 := Tryz.isAgg9
  z9 := Tryz.sizeOf9
  v9 := Tryz.zeroValue9
  t20 := Tryz.underlying20
  a20 := Tryz.isAgg20
  z20 := Tryz.sizeOf20
  v20 := Tryz.zeroValue20
  t37 := Tryz.underlying22
  a37 := Tryz.isAgg22
  z37 := Tryz.sizeOf22
  v37 := Tryz.zeroValue22
  t70 := Tryz.underlying72
  a70 := Tryz.isAgg72
  z70 := Tryz.sizeOf72
  v70 := Tryz.zeroValue72
  t72 := Tryz.underlying74
  a72 := Tryz.isAgg74
  z72 := Tryz.sizeOf74
  v72 := Tryz.zeroValue74
  t75 := Tryz.underlying77
  a75 := Tryz.isAgg77
  z75 := Tryz.sizeOf77
  v75 := Tryz.zeroValue77
  t164 := Tryz.underlying128
  a164 := Tryz.isAgg128
  z164 := Tryz.sizeOf128
  v164 := Tryz.zeroValue128
theorem extra166 : Builder.Extra Tryz.prog lay166_ren where
  sizeBuilder := by kernel_rfl
  liesBuilder := by kernel_rfl
  t5 := Tryz.underlying5
  a5 := Tryz.isAgg5
  z5 := Tryz.sizeOf5
  v5 := Tryz.zeroValue5
  infoByte := by kernel_rfl
  cellsByte := by kernel_rfl
  sizeByte := by kernel_rfl
  neB5 := by decide
theorem bWriteString (B b : Nat) (bs : List Value) (s : ByteArray) (w : World) (h : Lib.IsBuilder 74 5 B b bs w) (hlen : bs.length + s.size ≤ 140737488355328) (hBw : B ≤ w.heap.size) :
    Calls Tryz.prog 45 #[.pointer (some ⟨b, 0, none⟩), .string s] w fun e w' => e = .returned (.tuple #[.int .i64 s.size, .nilIface]) ∧ (Lib.BuilderAt 74 5 B b (.pointer (some ⟨b, 0, none⟩)) (bs ++ Lib.strCells s) w' ∧ Below B w w') := Any.Builder_WriteString lay166 extra166 B b bs s w h hlen hBw
def lay167_ren : Go.Shelf.Ren := ⟨fun | 0 => 0 | 1 => 1 | 2 => 2 | 103 => 102 | 122 => 89 | 125 => 132 | 128 => 154 | 129 => 136 | 143 => 77 | 156 => 22 | 165 => 44 | 166 => 45 | 167 => 71 | 169 => 46 | 170 => 72 | 171 => 42 | 172 => 51 | 197 => 76 | 205 => 125 | 206 => 144 | 210 => 126 | 215 => 112 | 217 => 119 | 219 => 96 | 224 => 121 | 225 => 120 | 240 => 73 | 241 => 74 | 243 => 69 | 244 => 78 | 245 => 79 | 246 => 92 | 247 => 97 | 260 => 95 | 266 => 140 | 267 => 122 | 276 => 93 | 277 => 94 | 279 => 98 | 280 => 99 | 281 => 100 | 282 => 101 | 283 => 115 | 284 => 116 | 285 => 117 | 286 => 118 | 287 => 123 | 314 => 141 | 316 => 124 | 317 => 135 | 318 => 137 | 319 => 138 | 320 => 139 | 321 => 142 | 322 => 143 | 329 => 160 | 330 => 161 | 337 => 157 | 338 => 158 | 347 => 165 | 348 => 166 | 349 => 167 | 350 => 168 | 351 => 169 | 352 => 170 | 353 => 171 | 354 => 172 | 355 => 173 | 356 => 174 | 357 => 175 | 358 => 176 | 359 => 177 | 360 => 178 | 361 => 179 | 362 => 180 | 363 => 183 | 364 => 181 | 365 => 182 | 366 => 184 | 367 => 194 | n => n, fun | 0 => 0 | 1 => 1 | 2 => 2 | 3 => 3 | 4 => 4 | 5 => 5 | 6 => 6 | 7 => 7 | 8 => 8 | 9 => 9 | 10 => 10 | 11 => 11 | 12 => 12 | 13 => 13 | 14 => 14 | 15 => 15 | 16 => 16 | 17 => 17 | 18 => 18 | 19 => 19 | 20 => 20 | 21 => 21 | 22 => 175 | 24 => 137 | 25 => 138 | 26 => 88 | 27 => 113 | 28 => 68 | 31 => 43 | 37 => 22 | 38 => 32 | 43 => 104 | 46 => 150 | 47 => 164 | 51 => 167 | 52 => 184 | 53 => 144 | 54 => 145 | 55 => 154 | 67 => 47 | 68 => 54 | 69 => 83 | 70 => 72 | 71 => 73 | 72 => 74 | 73 => 75 | 74 => 76 | 75 => 77 | 76 => 78 | 77 => 79 | 78 => 108 | 80 => 80 | 81 => 59 | 83 => 57 | 84 => 127 | 85 => 132 | 86 => 133 | 104 => 110 | 105 => 111 | 106 => 112 | 108 => 159 | 111 => 89 | 114 => 60 | 119 => 149 | 127 => 109 | 128 => 114 | 131 => 182 | 137 => 151 | 138 => 152 | 139 => 153 | 143 => 172 | 144 => 173 | 145 => 174 | 146 => 169 | 151 => 170 | 164 => 128 | 165 => 129 | 166 => 130 | 167 => 131 | 168 => 134 | 169 => 135 | 170 => 136 | 171 => 143 | 172 => 146 | 173 => 147 | 174 => 148 | 175 => 155 | 176 => 156 | 182 => 177 | 183 => 178 | 209 => 157 | 210 => 158 | 211 => 165 | 212 => 166 | 213 => 168 | 214 => 171 | 218 => 185 | 219 => 186 | 220 => 187 | 222 => 189 | 228 => 193 | 229 => 86 | 232 => 191 | 233 => 192 | 238 => 195 | 239 => 196 | 240 => 197 | 241 => 198 | 242 => 199 | 243 => 200 | 244 => 201 | 245 => 202 | 246 => 203 | 247 => 204 | 248 => 205 | 249 => 206 | n => n, fun n => n⟩
theorem lay167 : Lays.n167 Tryz.prog lay167_ren where
  mixed := by kernel_rfl
  f167 := Tryz.func71.trans (congrArg some (by kernel_rfl))
  f240 := Tryz.func73.trans (congrArg some (by kernel_rfl))
  f276 := Tryz.func93.trans (congrArg some (by kernel_rfl))
  t0 := Tryz.underlying0
  a0 := Tryz.isAgg0
  z0 := Tryz.sizeOf0
  v0 := Tryz.zeroValue0
  t4 := Tryz.underlying4
  a4 := Tryz.isAgg4
  z4 := Tryz.sizeOf4
  v4 := Tryz.zeroValue4
  t5 := Tryz.underlying5
  a5 := Tryz.isAgg5
  z5 := Tryz.sizeOf5
  v5 := Tryz.zeroValue5
  t9 := Tryz.underlying9
  a9 := Tryz.isAgg9
  z9 := Tryz.sizeOf9
  v9 := Tryz.zeroValue9
  t20 := Tryz.underlying20
  a20 := Tryz.isAgg20
  z20 := Tryz.sizeOf20
  v20 := Tryz.zeroValue20
  t37 := Tryz.underlying22
  a37 := Tryz.isAgg22
  z37 := Tryz.sizeOf22
  v37 := Tryz.zeroValue22
  t70 := Tryz.underlying72
  a70 := Tryz.isAgg72
  z70 := Tryz.sizeOf72
  v70 := Tryz.zeroValue72
  t72 := Tryz.underlying74
  a72 := Tryz.isAgg74
  z72 := Tryz.sizeOf74
  v72 := Tryz.zeroValue74
  t75 := Tryz.underlying77
  a75 := Tryz.isAgg77
  z75 := Tryz.sizeOf77
  v75 := Tryz.zeroValue77
  t164 := Tryz.underlying128
  a164 := Tryz.isAgg128
  z164 := Tryz.sizeOf128
  v164 := Tryz.zeroValue128
theorem extra167 : Builder.Extra Tryz.prog lay167_ren where
  sizeBuilder := by kernel_rfl
  liesBuilder := by kernel_rfl
  t5 := Tryz.underlying5
  a5 := Tryz.isAgg5
  z5 := Tryz.sizeOf5
  v5 := Tryz.zeroValue5
  infoByte := by kernel_rfl
  cellsByte := by kernel_rfl
  sizeByte := by kernel_rfl
  neB5 := by decide
theorem bWriteByte (B b : Nat) (bs : List Value) (c : Int) (w : World) (h : Lib.IsBuilder 74 5 B b bs w) (hlen : bs.length + 1 ≤ 140737488355328) (hBw : B ≤ w.heap.size) :
    Calls Tryz.prog 71 #[.pointer (some ⟨b, 0, none⟩), .int .u8 c] w fun e w' => e = .returned .nilIface ∧ (Lib.BuilderAt 74 5 B b (.pointer (some ⟨b, 0, none⟩)) (bs ++ [.int .u8 c]) w' ∧ Below B w w') := Any.Builder_WriteByte lay167 extra167 B b bs c w h hlen hBw
shelf_lay Lays.n169 Nm 169 at Tryz as lay169
theorem extra169 : Builder.Extra Tryz.prog lay169_ren where
  sizeBuilder := by kernel_rfl
  liesBuilder := by kernel_rfl
  t5 := Tryz.underlying5
  a5 := Tryz.isAgg5
  z5 := Tryz.sizeOf5
  v5 := Tryz.zeroValue5
  infoByte := by kernel_rfl
  cellsByte := by kernel_rfl
  sizeByte := by kernel_rfl
  neB5 := by decide
theorem bString (B b : Nat) (l : List UInt8) (w : World) (h : Lib.IsBuilder 74 5 B b (Lib.byteCells l) w) (hBw : B ≤ w.heap.size) :
    Calls Tryz.prog 46 #[.pointer (some ⟨b, 0, none⟩)] w fun e w' => e = .returned (.string ⟨l.toArray⟩) ∧ Below B w w' := Any.Builder_String_any lay169 extra169 B b l w h hBw
shelf_lay Lays.n170 Nm 170 at Tryz as lay170
theorem bLen (B b : Nat) (bs : List Value) (w : World) (h : Lib.IsBuilder 74 5 B b bs w) :
    Calls Tryz.prog 72 #[.pointer (some ⟨b, 0, none⟩)] w fun e w' => e = .returned (.int .i64 bs.length) ∧ w' = w := Any.Builder_Len lay170 B b bs w h
shelf_lay Lays.n171 Nm 171 at Tryz as lay171
theorem itoaSm (i : Nat) (hi : i < 100) (w : World) :
    Calls Tryz.prog 42 #[.int .i64 i] w fun e w' => e = .returned (.string ⟨(Lib.decDigits i).toArray⟩) ∧ w' = w := Any.strconv_Itoa_small lay171 i hi w
end Go.Proofs.YtnfgiplgkobnlaaGreatDoor
namespace Go.Proofs.YtnfgiplgkobnlaaGreatDoor
open Go.RowKit
set_option linter.unusedVariables false
set_option linter.unusedSimpArgs false

theorem bc_snoc (l : List UInt8) (c : UInt8) : Lib.byteCells l ++ [.int .u8 (c.toNat : Int)] = Lib.byteCells (l ++ [c]) := by rw [Lib.byteCells_append]; rfl
theorem bc_str (l : List UInt8) (s : List UInt8) : Lib.byteCells l ++ Lib.strCells ⟨s.toArray⟩ = Lib.byteCells (l ++ s) := by rw [Lib.strCells_eq, Lib.byteCells_append]
theorem bld_byte {B b : Nat} {l : List UInt8} {c : UInt8} {w : World} (h : Lib.BuilderAt 74 5 B b (.pointer (some ⟨b, 0, none⟩)) (Lib.byteCells l ++ [.int .u8 (c.toNat : Int)]) w) : Lib.IsBuilder 74 5 B b (Lib.byteCells (l ++ [c])) w := by
  rw [bc_snoc] at h; exact .inr h
theorem bld_str {B b : Nat} {l s : List UInt8} {w : World} (h : Lib.BuilderAt 74 5 B b (.pointer (some ⟨b, 0, none⟩)) (Lib.byteCells l ++ Lib.strCells ⟨s.toArray⟩) w) : Lib.IsBuilder 74 5 B b (Lib.byteCells (l ++ s)) w := by
  rw [bc_str] at h; exact .inr h
theorem bld_fresh {w w' : World} (h : Below (w.alloc (.cells #[.pointer none, .slice none 0 0] 74)).heap.size (w.alloc (.cells #[.pointer none, .slice none 0 0] 74)) w') : Lib.IsBuilder 74 5 w.heap.size w.heap.size (Lib.byteCells []) w' :=
  .inl ⟨Nat.le_refl _, .slice none 0 0, (h.block w.heap.size (by simp)).trans (Go.heap_alloc_new w _), World.ownsRow_nil _ _ _ _, by simp [Value.ownBlock]⟩
/-- one factor is written. -/
def Fac (B : Nat) (w : World) (l : List UInt8) (wr : World) : Prop := Lib.IsBuilder 74 5 B B (Lib.byteCells l) wr ∧ Below B w wr
theorem Fac.size {B : Nat} {w wr : World} {l : List UInt8} (h : Fac B w l wr) (hB : B ≤ w.heap.size) : B ≤ wr.heap.size := Nat.le_trans hB h.2.size
theorem Fac.byte {B : Nat} {w wr : World} {l : List UInt8} (h : Fac B w l wr) (hB : B ≤ w.heap.size) (hl : l.length ≤ 100) (c : UInt8) : Calls Tryz.prog 71 #[.pointer (some ⟨B, 0, none⟩), .int .u8 (c.toNat : Int)] wr fun e w' => e = .returned .nilIface ∧ Fac B w (l ++ [c]) w' :=
  (bWriteByte B B _ _ wr h.1 (by rw [Lib.byteCells_length]; omega) (h.size hB)).mono fun e w' ⟨he, h1, h2⟩ => ⟨he, bld_byte h1, h.2.trans h2⟩
theorem Fac.str {B : Nat} {w wr : World} {l : List UInt8} (h : Fac B w l wr) (hB : B ≤ w.heap.size) (hl : l.length ≤ 100) (s : List UInt8) (hs : s.length ≤ 100) : Calls Tryz.prog 45 #[.pointer (some ⟨B, 0, none⟩), .string ⟨s.toArray⟩] wr fun e w' => (∃ v, e = .returned v) ∧ Fac B w (l ++ s) w' :=
  (bWriteString B B _ _ wr h.1 (by
    rw [Lib.byteCells_length]
    have : (⟨s.toArray⟩ : ByteArray).size = s.length := by simp [ByteArray.size]
    omega) (h.size hB)).mono fun e w' ⟨he, h1, h2⟩ => ⟨⟨_, he⟩, bld_str h1, h.2.trans h2⟩
set_option maxRecDepth 100000 in
set_option maxHeartbeats 4000000 in
theorem monTextI (x y d e : Int) (w : World) :
    Calls Tryz.prog 43 #[.agg #[.int .i64 x, .int .i64 y, .int .i64 d, .int .i64 e]] w fun r w' => r = .returned (.string ⟨(monT ⟨x, y, d, e⟩).toArray⟩) ∧ Below w.heap.size w w' := by
  obtain ⟨ok, hok⟩ : ∃ b, M.ok ⟨x, y, d, e⟩ = b := ⟨_, rfl⟩
  have HOK := Hid.mk' hok
  clear hok
  cases ok
  · have he := monT_no HOK.out
    have HE := Hid.mk' he
    clear he
    go_enter Tryz.func43, Tryz.ntmps43
    go_wp2_with fail
    refine (monOkI_of HOK.out _).mono ?_
    rintro r w1 ⟨rfl, hb⟩
    go_wp2
    go_ret
    exact ⟨by rw [HE.out]; rfl, bel_next (bel_one w _) hb⟩
  · obtain ⟨x1, x2, y1, y2, d1, d2, e1, e2⟩ := M.ok_iff.1 HOK.out
    simp only at x1 x2 y1 y2 d1 d2 e1 e2
    have i0 : ∀ w : World, (Instr.index 106 (.agg #[.int .i64 x, .int .i64 y, .int .i64 d, .int .i64 e]) (.int .i64 0)).run Tryz.prog w = .ok (.int .i64 x) w := fun _ => by kernel_rfl
    have i1 : ∀ w : World, (Instr.index 106 (.agg #[.int .i64 x, .int .i64 y, .int .i64 d, .int .i64 e]) (.int .i64 1)).run Tryz.prog w = .ok (.int .i64 y) w := fun _ => by kernel_rfl
    have i2 : ∀ w : World, (Instr.index 106 (.agg #[.int .i64 x, .int .i64 y, .int .i64 d, .int .i64 e]) (.int .i64 2)).run Tryz.prog w = .ok (.int .i64 d) w := fun _ => by kernel_rfl
    have i3 : ∀ w : World, (Instr.index 106 (.agg #[.int .i64 x, .int .i64 y, .int .i64 d, .int .i64 e]) (.int .i64 3)).run Tryz.prog w = .ok (.int .i64 e) w := fun _ => by kernel_rfl
    have j0 : ∀ w : World, (Instr.index 9 (.string ⟨#[120, 121, 100, 101]⟩) (.int .i64 0)).run Tryz.prog w = .ok (.int .u8 ((120 : UInt8).toNat : Int)) w := fun _ => by kernel_rfl
    have j1 : ∀ w : World, (Instr.index 9 (.string ⟨#[120, 121, 100, 101]⟩) (.int .i64 1)).run Tryz.prog w = .ok (.int .u8 ((121 : UInt8).toNat : Int)) w := fun _ => by kernel_rfl
    have j2 : ∀ w : World, (Instr.index 9 (.string ⟨#[120, 121, 100, 101]⟩) (.int .i64 2)).run Tryz.prog w = .ok (.int .u8 ((100 : UInt8).toNat : Int)) w := fun _ => by kernel_rfl
    have j3 : ∀ w : World, (Instr.index 9 (.string ⟨#[120, 121, 100, 101]⟩) (.int .i64 3)).run Tryz.prog w = .ok (.int .u8 ((101 : UInt8).toNat : Int)) w := fun _ => by kernel_rfl
    have HLEN := Hid.mk' (txTo_len HOK.out)
    have HT := Hid.mk' (show ∀ k, txTo ⟨x, y, d, e⟩ (k + 1) = txTo ⟨x, y, d, e⟩ k ++ fpw (ltr k) (cnt x y d e k) from fun k => rfl)
    have HS4 := Hid.mk' (show txTo ⟨x, y, d, e⟩ 4 = monS ⟨x, y, d, e⟩ from rfl)
    have HS0 := Hid.mk' (show txTo ⟨x, y, d, e⟩ 0 = [] from rfl)
    obtain ⟨Res, hRes⟩ : ∃ R, monT ⟨x, y, d, e⟩ = R := ⟨_, rfl⟩
    rw [hRes]
    have HR1 := Hid.mk' (monT_one (m := ⟨x, y, d, e⟩) HOK.out)
    have HR2 := Hid.mk' (monT_is (m := ⟨x, y, d, e⟩) HOK.out)
    rw [hRes] at HR1 HR2
    clear hRes
    obtain ⟨tx, htx⟩ : ∃ f, txTo ⟨x, y, d, e⟩ = f := ⟨_, rfl⟩
    obtain ⟨mS, hmS⟩ : ∃ f, monS ⟨x, y, d, e⟩ = f := ⟨_, rfl⟩
    rw [htx] at HLEN HT HS4 HS0
    rw [hmS] at HS4 HR1 HR2
    clear htx hmS
    go_enter Tryz.func43, Tryz.ntmps43
    go_wp2_with fail
    refine (monOkI_of HOK.out _).mono ?_
    rintro r w1 ⟨rfl, hb⟩
    have hb1 := bel_next (bel_one w (.cells #[.int .i64 x, .int .i64 y, .int .i64 d, .int .i64 e] 38)) hb
    have HB1 := Hid.mk' hb1
    have c0 : w1.cell? ⟨w.heap.size, 0, none⟩ = some (.int .i64 x) := (hb.cell (p := ⟨w.heap.size, 0, none⟩) (by simp)).trans (by rw [World.cell?_alloc_at _ _ _ _ rfl]; rfl)
    have c1 : w1.cell? ⟨w.heap.size, 1, none⟩ = some (.int .i64 y) := (hb.cell (p := ⟨w.heap.size, 1, none⟩) (by simp)).trans (by rw [World.cell?_alloc_at _ _ _ _ rfl]; rfl)
    have c2 : w1.cell? ⟨w.heap.size, 2, none⟩ = some (.int .i64 d) := (hb.cell (p := ⟨w.heap.size, 2, none⟩) (by simp)).trans (by rw [World.cell?_alloc_at _ _ _ _ rfl]; rfl)
    have c3 : w1.cell? ⟨w.heap.size, 3, none⟩ = some (.int .i64 e) := (hb.cell (p := ⟨w.heap.size, 3, none⟩) (by simp)).trans (by rw [World.cell?_alloc_at _ _ _ _ rfl]; rfl)
    have hws : w.heap.size < w1.heap.size := Nat.lt_of_lt_of_le (by simp) hb.size
    clear hb hb1
    go_wp2_with fail
    refine (countsI x y d e _).mono ?_
    rintro r w2 ⟨rfl, hb2⟩
    have HF0 : Hid (Fac w1.heap.size w1 (tx 0) w2) := by rw [HS0.out]; exact ⟨bld_fresh hb2, Below.trans ((Below.refl _ w1).alloc (Nat.le_refl _) _) (hb2.mono (by simp))⟩
    clear hb2 c0 c1 c2 c3
    obtain ⟨B, hB⟩ : ∃ B, w1.heap.size = B := ⟨_, rfl⟩
    rw [hB] at HF0
    have hBw : B ≤ w1.heap.size := by omega
    have hwB : w.heap.size ≤ B := by omega
    simp only [hB]
    clear hB
    go_wp2
    go_loopw [11] (fun v wr => ∃ k : Nat, k ≤ 4 ∧ v = .int .i64 (k : Int) ∧ Hid (Fac B w1 (tx k) wr)) (fun v _ => 4 - (intOf v).toNat)
    case atStart => exact ⟨0, by omega, rfl, HF0⟩
    case round =>
      obtain ⟨k, hk, rfl, HF⟩ := hrel
      by_cases hk4 : k = 4
      · subst hk4
        rw [HS4.out] at HF
        have hl12 : mS.length ≤ 12 := by rw [← HS4.out]; exact HLEN.out 4
        go_wp2_with fail
        refine (bLen B B _ _ HF.out.1).mono ?_
        rw [Lib.byteCells_length]
        rintro r w9 ⟨rfl, hw9⟩
        obtain rfl := hw9.symm
        clear hw9
        by_cases h0 : mS = []
        · have hl0 : mS.length = 0 := by rw [h0]; rfl
          have hR := HR1.out h0
          have HR := Hid.mk' hR
          clear hR h0
          rw [hl0]
          go_wp2
          go_ret
          exact ⟨by rw [HR.out]; rfl, HB1.out.trans (HF.out.2.mono (by omega))⟩
        · have hl0 : ((mS.length : Int) == 0) = false := beq_eq_false_iff_ne.2 (fun h => h0 (List.length_eq_zero_iff.1 (by omega)))
          have hR := HR2.out h0
          have HR := Hid.mk' hR
          clear hR h0
          go_wp2_with fail
          refine (bString B B mS _ HF.out.1 (HF.out.size hBw)).mono ?_
          rintro r w8 ⟨rfl, hb8⟩
          go_wp2
          go_ret
          exact ⟨by rw [HR.out]; rfl, HB1.out.trans ((HF.out.2.trans hb8).mono (by omega))⟩
      · have hkl : (k : Int) < 4 := by omega
        have hlk : (tx k).length ≤ 12 := by have := HLEN.out k; omega
        have key : ∀ (c : UInt8) (n : Int), ltr k = c → cnt x y d e k = n → Hid (tx (k + 1) = tx k ++ fpw c n) := fun c n h1 h2 => by rw [HT.out, h1, h2]; exact Hid.mk' rfl
        rcases (show k = 0 ∨ k = 1 ∨ k = 2 ∨ k = 3 by omega) with rfl | rfl | rfl | rfl
        · have HK := key 120 x rfl rfl
          clear key
          by_cases h0 : x = 0
          · subst h0
            have hq : tx 1 = tx 0 := by rw [HK.out]; exact List.append_nil _
            have HQ := Hid.mk' hq
            clear hq
            go_wp2
            go_roundw
            case rel => exact ⟨1, by omega, by go_num, by rw [HQ.out]; exact HF⟩
            case measure => simp [intOf]
          · by_cases h1 : x = 1
            · subst h1
              go_wp2_with fail
              refine (HF.out.byte hBw (by omega) 120).mono ?_
              rintro r w3 ⟨rfl, hF3⟩
              have HF3 := Hid.mk' hF3
              clear hF3
              have hq : tx 1 = tx 0 ++ [120] := HK.out
              have HQ := Hid.mk' hq
              clear hq
              go_wp2
              go_roundw
              case rel => exact ⟨1, by omega, by go_num, by rw [HQ.out]; exact HF3⟩
              case measure => simp [intOf]
            · obtain ⟨n, rfl⟩ : ∃ n : Nat, x = (n : Int) := ⟨x.toNat, by omega⟩
              have hn0 : (0 : Int) < (n : Int) := by omega
              have hn1 : (1 : Int) < (n : Int) := by omega
              have hq : tx 1 = tx 0 ++ [120] ++ Lib.decDigits n := by rw [HK.out, fpw_more (by omega)]; simp
              have HQ := Hid.mk' hq
              clear hq
              obtain ⟨D, hD⟩ : ∃ D, Lib.decDigits n = D := ⟨_, rfl⟩
              have hl : D.length ≤ 2 := by rw [← hD]; exact dec_len2 (by omega)
              have hci := fun u => itoaSm n (by omega) u
              rw [hD] at HQ
              simp only [hD] at hci
              have HCI := Hid.mk' hci
              clear hci hD
              go_wp2_with fail
              refine (HF.out.byte hBw (by omega) 120).mono ?_
              rintro r w3 ⟨rfl, hF3⟩
              have HF3 := Hid.mk' hF3
              clear hF3
              go_wp2_with fail
              refine (HCI.out _).mono ?_
              rintro r w4 ⟨rfl, hw4⟩
              obtain rfl := hw4.symm
              clear hw4
              go_wp2_with fail
              refine (HF3.out.str hBw (by simp; omega) D (by omega)).mono ?_
              rintro r w5 ⟨⟨v5, rfl⟩, hF5⟩
              have HF5 := Hid.mk' hF5
              clear hF5
              go_wp2
              go_roundw
              case rel => exact ⟨1, by omega, by go_num, by rw [HQ.out]; exact HF5⟩
              case measure => simp [intOf]
        · have HK := key 121 y rfl rfl
          clear key
          by_cases h0 : y = 0
          · subst h0
            have hq : tx 2 = tx 1 := by rw [HK.out]; exact List.append_nil _
            have HQ := Hid.mk' hq
            clear hq
            go_wp2
            go_roundw
            case rel => exact ⟨2, by omega, by go_num, by rw [HQ.out]; exact HF⟩
            case measure => simp [intOf]
          · by_cases h1 : y = 1
            · subst h1
              go_wp2_with fail
              refine (HF.out.byte hBw (by omega) 121).mono ?_
              rintro r w3 ⟨rfl, hF3⟩
              have HF3 := Hid.mk' hF3
              clear hF3
              have hq : tx 2 = tx 1 ++ [121] := HK.out
              have HQ := Hid.mk' hq
              clear hq
              go_wp2
              go_roundw
              case rel => exact ⟨2, by omega, by go_num, by rw [HQ.out]; exact HF3⟩
              case measure => simp [intOf]
            · obtain ⟨n, rfl⟩ : ∃ n : Nat, y = (n : Int) := ⟨y.toNat, by omega⟩
              have hn0 : (0 : Int) < (n : Int) := by omega
              have hn1 : (1 : Int) < (n : Int) := by omega
              have hq : tx 2 = tx 1 ++ [121] ++ Lib.decDigits n := by rw [HK.out, fpw_more (by omega)]; simp
              have HQ := Hid.mk' hq
              clear hq
              obtain ⟨D, hD⟩ : ∃ D, Lib.decDigits n = D := ⟨_, rfl⟩
              have hl : D.length ≤ 2 := by rw [← hD]; exact dec_len2 (by omega)
              have hci := fun u => itoaSm n (by omega) u
              rw [hD] at HQ
              simp only [hD] at hci
              have HCI := Hid.mk' hci
              clear hci hD
              go_wp2_with fail
              refine (HF.out.byte hBw (by omega) 121).mono ?_
              rintro r w3 ⟨rfl, hF3⟩
              have HF3 := Hid.mk' hF3
              clear hF3
              go_wp2_with fail
              refine (HCI.out _).mono ?_
              rintro r w4 ⟨rfl, hw4⟩
              obtain rfl := hw4.symm
              clear hw4
              go_wp2_with fail
              refine (HF3.out.str hBw (by simp; omega) D (by omega)).mono ?_
              rintro r w5 ⟨⟨v5, rfl⟩, hF5⟩
              have HF5 := Hid.mk' hF5
              clear hF5
              go_wp2
              go_roundw
              case rel => exact ⟨2, by omega, by go_num, by rw [HQ.out]; exact HF5⟩
              case measure => simp [intOf]
        · have HK := key 100 d rfl rfl
          clear key
          by_cases h0 : d = 0
          · subst h0
            have hq : tx 3 = tx 2 := by rw [HK.out]; exact List.append_nil _
            have HQ := Hid.mk' hq
            clear hq
            go_wp2
            go_roundw
            case rel => exact ⟨3, by omega, by go_num, by rw [HQ.out]; exact HF⟩
            case measure => simp [intOf]
          · by_cases h1 : d = 1
            · subst h1
              go_wp2_with fail
              refine (HF.out.byte hBw (by omega) 100).mono ?_
              rintro r w3 ⟨rfl, hF3⟩
              have HF3 := Hid.mk' hF3
              clear hF3
              have hq : tx 3 = tx 2 ++ [100] := HK.out
              have HQ := Hid.mk' hq
              clear hq
              go_wp2
              go_roundw
              case rel => exact ⟨3, by omega, by go_num, by rw [HQ.out]; exact HF3⟩
              case measure => simp [intOf]
            · obtain ⟨n, rfl⟩ : ∃ n : Nat, d = (n : Int) := ⟨d.toNat, by omega⟩
              have hn0 : (0 : Int) < (n : Int) := by omega
              have hn1 : (1 : Int) < (n : Int) := by omega
              have hq : tx 3 = tx 2 ++ [100] ++ Lib.decDigits n := by rw [HK.out, fpw_more (by omega)]; simp
              have HQ := Hid.mk' hq
              clear hq
              obtain ⟨D, hD⟩ : ∃ D, Lib.decDigits n = D := ⟨_, rfl⟩
              have hl : D.length ≤ 2 := by rw [← hD]; exact dec_len2 (by omega)
              have hci := fun u => itoaSm n (by omega) u
              rw [hD] at HQ
              simp only [hD] at hci
              have HCI := Hid.mk' hci
              clear hci hD
              go_wp2_with fail
              refine (HF.out.byte hBw (by omega) 100).mono ?_
              rintro r w3 ⟨rfl, hF3⟩
              have HF3 := Hid.mk' hF3
              clear hF3
              go_wp2_with fail
              refine (HCI.out _).mono ?_
              rintro r w4 ⟨rfl, hw4⟩
              obtain rfl := hw4.symm
              clear hw4
              go_wp2_with fail
              refine (HF3.out.str hBw (by simp; omega) D (by omega)).mono ?_
              rintro r w5 ⟨⟨v5, rfl⟩, hF5⟩
              have HF5 := Hid.mk' hF5
              clear hF5
              go_wp2
              go_roundw
              case rel => exact ⟨3, by omega, by go_num, by rw [HQ.out]; exact HF5⟩
              case measure => simp [intOf]
        · have HK := key 101 e rfl rfl
          clear key
          by_cases h0 : e = 0
          · subst h0
            have hq : tx 4 = tx 3 := by rw [HK.out]; exact List.append_nil _
            have HQ := Hid.mk' hq
            clear hq
            go_wp2
            go_roundw
            case rel => exact ⟨4, by omega, by go_num, by rw [HQ.out]; exact HF⟩
            case measure => simp [intOf]
          · by_cases h1 : e = 1
            · subst h1
              go_wp2_with fail
              refine (HF.out.byte hBw (by omega) 101).mono ?_
              rintro r w3 ⟨rfl, hF3⟩
              have HF3 := Hid.mk' hF3
              clear hF3
              have hq : tx 4 = tx 3 ++ [101] := HK.out
              have HQ := Hid.mk' hq
              clear hq
              go_wp2
              go_roundw
              case rel => exact ⟨4, by omega, by go_num, by rw [HQ.out]; exact HF3⟩
              case measure => simp [intOf]
            · obtain ⟨n, rfl⟩ : ∃ n : Nat, e = (n : Int) := ⟨e.toNat, by omega⟩
              have hn0 : (0 : Int) < (n : Int) := by omega
              have hn1 : (1 : Int) < (n : Int) := by omega
              have hq : tx 4 = tx 3 ++ [101] ++ Lib.decDigits n := by rw [HK.out, fpw_more (by omega)]; simp
              have HQ := Hid.mk' hq
              clear hq
              obtain ⟨D, hD⟩ : ∃ D, Lib.decDigits n = D := ⟨_, rfl⟩
              have hl : D.length ≤ 2 := by rw [← hD]; exact dec_len2 (by omega)
              have hci := fun u => itoaSm n (by omega) u
              rw [hD] at HQ
              simp only [hD] at hci
              have HCI := Hid.mk' hci
              clear hci hD
              go_wp2_with fail
              refine (HF.out.byte hBw (by omega) 101).mono ?_
              rintro r w3 ⟨rfl, hF3⟩
              have HF3 := Hid.mk' hF3
              clear hF3
              go_wp2_with fail
              refine (HCI.out _).mono ?_
              rintro r w4 ⟨rfl, hw4⟩
              obtain rfl := hw4.symm
              clear hw4
              go_wp2_with fail
              refine (HF3.out.str hBw (by simp; omega) D (by omega)).mono ?_
              rintro r w5 ⟨⟨v5, rfl⟩, hF5⟩
              have HF5 := Hid.mk' hF5
              clear hF5
              go_wp2
              go_roundw
              case rel => exact ⟨4, by omega, by go_num, by rw [HQ.out]; exact HF5⟩
              case measure => simp [intOf]
end Go.Proofs.YtnfgiplgkobnlaaGreatDoor
namespace Go.Proofs.YtnfgiplgkobnlaaGreatDoor
open Go.Shelf Go.RowKit
set_option linter.unusedVariables false
set_option linter.unusedSimpArgs false

theorem ba_size (l : List UInt8) : (⟨l.toArray⟩ : ByteArray).size = l.length := by simp [ByteArray.size]
theorem str_index {l : List UInt8} {k : Nat} {c : UInt8} (h : l[k]? = some c) (u : World) : (Instr.index 9 (.string ⟨l.toArray⟩) (.int .i64 (k : Int))).run Tryz.prog u = .ok (.int .u8 (c.toNat : Int)) u := by
  obtain ⟨hk, e⟩ := List.getElem?_eq_some_iff.1 h
  rw [run_index_string _ _ _ _ _ Tryz.underlying9, dif_pos ⟨by omega, by rw [ba_size]; omega⟩]
  subst e
  rfl
theorem str_to {l : List UInt8} {k : Nat} (h : k ≤ l.length) (u : World) : (Instr.slice 9 (.string ⟨l.toArray⟩) none (some (.int .i64 (k : Int))) none).run Tryz.prog u = .ok (.string ⟨(l.take k).toArray⟩) u := by
  rw [run_slice_string_to_if _ _ _ _ _ Tryz.underlying9, if_pos ⟨by omega, by rw [ba_size]; omega⟩]
  congr 2
  apply ByteArray.ext
  simp
theorem str_from {l : List UInt8} {k : Nat} (h : k ≤ l.length) (u : World) : (Instr.slice 9 (.string ⟨l.toArray⟩) (some (.int .i64 (k : Int))) none none).run Tryz.prog u = .ok (.string ⟨(l.drop k).toArray⟩) u := by
  rw [run_slice_string_from_if _ _ _ _ _ Tryz.underlying9, if_pos ⟨by omega, by rw [ba_size]; omega⟩]
  congr 2
  apply ByteArray.ext
  simp [ba_size]
  exact List.take_of_length_le (by simp)
theorem lead_take {l : List UInt8} {k : Nat} (h1 : ∀ j c, j < k → l[j]? = some c → isD c = true) (h2 : ∀ c, l[k]? = some c → isD c = false) (hk : k ≤ l.length) : l.take k = lead l := by
  have e : l = l.take k ++ l.drop k := (List.take_append_drop k l).symm
  have := lead_app (d := l.take k) (t := l.drop k) (fun c hc => by
    obtain ⟨j, hj, e⟩ := List.getElem_of_mem hc
    rw [List.length_take] at hj
    exact h1 j c (by omega) (by rw [← e, List.getElem_take]; exact List.getElem?_eq_getElem _)) (fun c r e => h2 c (by
      have : (l.drop k)[0]? = some c := by rw [e]; rfl
      rw [List.getElem?_drop] at this
      simpa using this))
  rw [← e] at this
  exact this.symm
set_option maxRecDepth 100000 in
set_option maxHeartbeats 2000000 in
theorem leadI (l : List UInt8) (hl : l.length ≤ 1000000) (w : World) :
    Calls Tryz.prog 50 #[.string ⟨l.toArray⟩] w fun r w' => r = .returned (.string ⟨(lead l).toArray⟩) ∧ w' = w := by
  go_enter Tryz.func50, Tryz.ntmps50
  go_wp2
  go_loop [3] (fun v => ∃ k : Nat, k ≤ l.length ∧ v = .int .i64 (k : Int) ∧ Hid (∀ j c, j < k → l[j]? = some c → isD c = true)) (fun v => l.length - (intOf v).toNat)
  case atStart => exact ⟨0, Nat.zero_le _, rfl, fun j c hj => by omega⟩
  case round =>
    obtain ⟨k, hk, rfl, HD⟩ := hrel
    have hlI : (l.length : Int) ≤ 1000000 := by omega
    by_cases hkl : k < l.length
    · have hkI : (k : Int) < (l.length : Int) := by omega
      obtain ⟨c, hc⟩ : ∃ c, l[k]? = some c := ⟨_, List.getElem?_eq_getElem hkl⟩
      have hix := str_index hc
      have HC := Hid.mk' hc
      clear hc
      obtain ⟨z, hz⟩ : ∃ z : Nat, c.toNat = z := ⟨_, rfl⟩
      have hdz : isD c = decide (48 ≤ z ∧ z ≤ 57) := by unfold isD; rw [hz]
      have HDZ := Hid.mk' hdz
      rw [hz] at hix
      clear hz hdz
      have fin : ¬ (48 ≤ z ∧ z ≤ 57) → Hid (l.take k = lead l) := fun hn => Hid.mk' (lead_take HD.out (fun c' hc' => by
        have e := HC.out.symm.trans hc'
        cases e
        rw [HDZ.out]; exact decide_eq_false hn) hk)
      have hto := fun u => str_to (l := l) (k := k) hk u
      by_cases h1 : 48 ≤ z
      · have h1I : (48 : Int) ≤ (z : Int) := by omega
        by_cases h2 : z ≤ 57
        · have h2I : (z : Int) ≤ 57 := by omega
          have HN : Hid (∀ j c, j < k + 1 → l[j]? = some c → isD c = true) := fun j c' hj hc' => by
            by_cases e : j = k
            · subst e
              have e := HC.out.symm.trans hc'
              cases e
              rw [HDZ.out]; exact decide_eq_true ⟨h1, h2⟩
            · exact HD.out j c' (by omega) hc'
          clear fin hto
          go_wp2
          go_round
          case rel => exact ⟨k + 1, by omega, by go_num, HN⟩
          case measure => simp [intOf]; omega
        · have h2I : ¬ (z : Int) ≤ 57 := by omega
          have HF := fin (fun q => h2 q.2)
          clear fin
          go_wp2
          go_ret
          exact ⟨by rw [← HF.out]; rfl, rfl⟩
      · have h1I : ¬ (48 : Int) ≤ (z : Int) := by omega
        have HF := fin (fun q => h1 q.1)
        clear fin
        go_wp2
        go_ret
        exact ⟨by rw [← HF.out]; rfl, rfl⟩
    · have hke : k = l.length := by omega
      have hnl : ¬ (k : Int) < (l.length : Int) := by omega
      have HF : Hid (l.take k = lead l) := Hid.mk' (lead_take HD.out (fun c hc => by
        have := (List.getElem?_eq_some_iff.1 hc).1
        omega) hk)
      have hto := fun u => str_to (l := l) (k := k) hk u
      clear hke
      go_wp2
      go_ret
      exact ⟨by rw [← HF.out]; rfl, rfl⟩
end Go.Proofs.YtnfgiplgkobnlaaGreatDoor
