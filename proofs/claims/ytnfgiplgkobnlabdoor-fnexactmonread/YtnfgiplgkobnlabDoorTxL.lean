/-
  The library's strings.Builder, strconv.Itoa: contracts laid at this dump.
-/
import Derived.Test.YtnfgiplgkobnlabDoorRows
import Derived.Shelf.Lay
import Derived.Shelf.Strings.Builder1
import Derived.Shelf.Strconv.Itoa3
import Derived.Ground.NamesProg
namespace Go.Proofs.YtnfgiplgkobnlabDoor
open Go.Shelf Go.RowKit
set_option linter.unusedVariables false
def lay166_ren : Go.Shelf.Ren := ⟨fun | 0 => 0 | 1 => 1 | 2 => 2 | 103 => 15 | 129 => 50 | 166 => 22 | 167 => 21 | 169 => 25 | 170 => 24 | 171 => 23 | 172 => 17 | 205 => 42 | 206 => 32 | 210 => 27 | 240 => 30 | 243 => 31 | 244 => 28 | 245 => 29 | 246 => 39 | 247 => 33 | 276 => 38 | 279 => 34 | 280 => 35 | 281 => 36 | 282 => 37 | 283 => 43 | 284 => 44 | 285 => 45 | 286 => 46 | 287 => 40 | 316 => 41 | 317 => 49 | 318 => 51 | 319 => 52 | 320 => 53 | 321 => 47 | 322 => 48 | 337 => 54 | 338 => 55 | 347 => 56 | 348 => 57 | 349 => 58 | 350 => 59 | 351 => 60 | 352 => 61 | 353 => 62 | 354 => 63 | 355 => 64 | 356 => 65 | 357 => 66 | 358 => 67 | 359 => 68 | 360 => 69 | 361 => 70 | 362 => 72 | 363 => 75 | 364 => 73 | 365 => 74 | 366 => 76 | 367 => 84 | n => n, fun | 0 => 0 | 1 => 1 | 2 => 2 | 3 => 3 | 4 => 4 | 5 => 5 | 6 => 6 | 7 => 7 | 8 => 8 | 9 => 9 | 10 => 10 | 11 => 11 | 12 => 12 | 13 => 13 | 14 => 14 | 15 => 15 | 16 => 16 | 17 => 17 | 18 => 18 | 19 => 19 | 20 => 20 | 21 => 21 | 22 => 58 | 24 => 39 | 25 => 40 | 26 => 37 | 37 => 48 | 46 => 71 | 47 => 90 | 51 => 87 | 52 => 91 | 53 => 68 | 54 => 76 | 69 => 41 | 70 => 47 | 71 => 49 | 72 => 50 | 74 => 42 | 75 => 43 | 76 => 44 | 77 => 45 | 78 => 52 | 80 => 55 | 81 => 54 | 83 => 53 | 84 => 67 | 85 => 60 | 86 => 61 | 104 => 27 | 108 => 74 | 111 => 89 | 114 => 84 | 127 => 57 | 128 => 56 | 143 => 81 | 144 => 82 | 145 => 83 | 164 => 65 | 165 => 66 | 167 => 59 | 168 => 62 | 169 => 63 | 170 => 64 | 171 => 75 | 172 => 77 | 173 => 78 | 174 => 79 | 175 => 69 | 176 => 70 | 209 => 72 | 210 => 73 | 211 => 85 | 212 => 86 | 213 => 88 | 214 => 80 | 229 => 34 | 232 => 92 | 233 => 93 | 238 => 94 | 239 => 95 | 240 => 96 | 241 => 97 | 242 => 98 | 243 => 99 | 244 => 100 | 245 => 101 | 246 => 102 | 247 => 103 | 248 => 104 | 249 => 105 | n => n, fun n => n⟩
theorem lay166 : Lays.n166 Tryd.prog lay166_ren where
  mixed := by kernel_rfl
  f166 := Tryd.func22.trans (congrArg some (by kernel_rfl))
  f240 := Tryd.func30.trans (congrArg some (by kernel_rfl))
  f276 := Tryd.func38.trans (congrArg some (by kernel_rfl))
  t0 := Tryd.underlying0
  a0 := Tryd.isAgg0
  z0 := Tryd.sizeOf0
  v0 := Tryd.zeroValue0
  t3 := Tryd.underlying3
  a3 := Tryd.isAgg3
  z3 := Tryd.sizeOf3
  v3 := Tryd.zeroValue3
  t4 := Tryd.underlying4
  a4 := Tryd.isAgg4
  z4 := Tryd.sizeOf4
  v4 := Tryd.zeroValue4
  t9 := Tryd.underlying9
  a9 := Tryd.isAgg9
  z9 := Tryd.sizeOf9
  v9 := Tryd.zeroValue9
  t20 := Tryd.underlying20
  a20 := Tryd.isAgg20
  z20 := Tryd.sizeOf20
  v20 := Tryd.zeroValue20
  t37 := Tryd.underlying48
  a37 := Tryd.isAgg48
  z37 := Tryd.sizeOf48
  v37 := Tryd.zeroValue48
  t70 := Tryd.underlying47
  a70 := Tryd.isAgg47
  z70 := Tryd.sizeOf47
  v70 := Tryd.zeroValue47
  t72 := Tryd.underlying50
  a72 := Tryd.isAgg50
  z72 := Tryd.sizeOf50
  v72 := Tryd.zeroValue50
  t75 := Tryd.underlying43
  a75 := Tryd.isAgg43
  z75 := Tryd.sizeOf43
  v75 := Tryd.zeroValue43
  t164 := Tryd.underlying65
  a164 := Tryd.isAgg65
  z164 := Tryd.sizeOf65
  v164 := Tryd.zeroValue65
theorem extra166 : Builder.Extra Tryd.prog lay166_ren where
  sizeBuilder := by kernel_rfl
  liesBuilder := by kernel_rfl
  t5 := Tryd.underlying5
  a5 := Tryd.isAgg5
  z5 := Tryd.sizeOf5
  v5 := Tryd.zeroValue5
  infoByte := by kernel_rfl
  cellsByte := by kernel_rfl
  sizeByte := by kernel_rfl
  neB5 := by decide
theorem bWriteString (B b : Nat) (bs : List Value) (s : ByteArray) (w : World) (h : Lib.IsBuilder 50 5 B b bs w) (hlen : bs.length + s.size ≤ 140737488355328) (hBw : B ≤ w.heap.size) :
    Calls Tryd.prog 22 #[.pointer (some ⟨b, 0, none⟩), .string s] w fun e w' => e = .returned (.tuple #[.int .i64 s.size, .nilIface]) ∧ (Lib.BuilderAt 50 5 B b (.pointer (some ⟨b, 0, none⟩)) (bs ++ Lib.strCells s) w' ∧ Below B w w') := Any.Builder_WriteString lay166 extra166 B b bs s w h hlen hBw
def lay167_ren : Go.Shelf.Ren := ⟨fun | 0 => 0 | 1 => 1 | 2 => 2 | 103 => 15 | 129 => 50 | 166 => 22 | 167 => 21 | 169 => 25 | 170 => 24 | 171 => 23 | 172 => 17 | 205 => 42 | 206 => 32 | 210 => 27 | 240 => 30 | 243 => 31 | 244 => 28 | 245 => 29 | 246 => 39 | 247 => 33 | 276 => 38 | 279 => 34 | 280 => 35 | 281 => 36 | 282 => 37 | 283 => 43 | 284 => 44 | 285 => 45 | 286 => 46 | 287 => 40 | 316 => 41 | 317 => 49 | 318 => 51 | 319 => 52 | 320 => 53 | 321 => 47 | 322 => 48 | 337 => 54 | 338 => 55 | 347 => 56 | 348 => 57 | 349 => 58 | 350 => 59 | 351 => 60 | 352 => 61 | 353 => 62 | 354 => 63 | 355 => 64 | 356 => 65 | 357 => 66 | 358 => 67 | 359 => 68 | 360 => 69 | 361 => 70 | 362 => 72 | 363 => 75 | 364 => 73 | 365 => 74 | 366 => 76 | 367 => 84 | n => n, fun | 0 => 0 | 1 => 1 | 2 => 2 | 3 => 3 | 4 => 4 | 5 => 5 | 6 => 6 | 7 => 7 | 8 => 8 | 9 => 9 | 10 => 10 | 11 => 11 | 12 => 12 | 13 => 13 | 14 => 14 | 15 => 15 | 16 => 16 | 17 => 17 | 18 => 18 | 19 => 19 | 20 => 20 | 21 => 21 | 22 => 58 | 24 => 39 | 25 => 40 | 26 => 37 | 37 => 48 | 46 => 71 | 47 => 90 | 51 => 87 | 52 => 91 | 53 => 68 | 54 => 76 | 69 => 41 | 70 => 47 | 71 => 49 | 72 => 50 | 74 => 42 | 75 => 43 | 76 => 44 | 77 => 45 | 78 => 52 | 80 => 55 | 81 => 54 | 83 => 53 | 84 => 67 | 85 => 60 | 86 => 61 | 104 => 27 | 108 => 74 | 111 => 89 | 114 => 84 | 127 => 57 | 128 => 56 | 143 => 81 | 144 => 82 | 145 => 83 | 164 => 65 | 165 => 66 | 167 => 59 | 168 => 62 | 169 => 63 | 170 => 64 | 171 => 75 | 172 => 77 | 173 => 78 | 174 => 79 | 175 => 69 | 176 => 70 | 209 => 72 | 210 => 73 | 211 => 85 | 212 => 86 | 213 => 88 | 214 => 80 | 229 => 34 | 232 => 92 | 233 => 93 | 238 => 94 | 239 => 95 | 240 => 96 | 241 => 97 | 242 => 98 | 243 => 99 | 244 => 100 | 245 => 101 | 246 => 102 | 247 => 103 | 248 => 104 | 249 => 105 | n => n, fun n => n⟩
theorem lay167 : Lays.n167 Tryd.prog lay167_ren where
  mixed := by kernel_rfl
  f167 := Tryd.func21.trans (congrArg some (by kernel_rfl))
  f240 := Tryd.func30.trans (congrArg some (by kernel_rfl))
  f276 := Tryd.func38.trans (congrArg some (by kernel_rfl))
  t0 := Tryd.underlying0
  a0 := Tryd.isAgg0
  z0 := Tryd.sizeOf0
  v0 := Tryd.zeroValue0
  t4 := Tryd.underlying4
  a4 := Tryd.isAgg4
  z4 := Tryd.sizeOf4
  v4 := Tryd.zeroValue4
  t5 := Tryd.underlying5
  a5 := Tryd.isAgg5
  z5 := Tryd.sizeOf5
  v5 := Tryd.zeroValue5
  t9 := Tryd.underlying9
  a9 := Tryd.isAgg9
  z9 := Tryd.sizeOf9
  v9 := Tryd.zeroValue9
  t20 := Tryd.underlying20
  a20 := Tryd.isAgg20
  z20 := Tryd.sizeOf20
  v20 := Tryd.zeroValue20
  t37 := Tryd.underlying48
  a37 := Tryd.isAgg48
  z37 := Tryd.sizeOf48
  v37 := Tryd.zeroValue48
  t70 := Tryd.underlying47
  a70 := Tryd.isAgg47
  z70 := Tryd.sizeOf47
  v70 := Tryd.zeroValue47
  t72 := Tryd.underlying50
  a72 := Tryd.isAgg50
  z72 := Tryd.sizeOf50
  v72 := Tryd.zeroValue50
  t75 := Tryd.underlying43
  a75 := Tryd.isAgg43
  z75 := Tryd.sizeOf43
  v75 := Tryd.zeroValue43
  t164 := Tryd.underlying65
  a164 := Tryd.isAgg65
  z164 := Tryd.sizeOf65
  v164 := Tryd.zeroValue65
theorem extra167 : Builder.Extra Tryd.prog lay167_ren where
  sizeBuilder := by kernel_rfl
  liesBuilder := by kernel_rfl
  t5 := Tryd.underlying5
  a5 := Tryd.isAgg5
  z5 := Tryd.sizeOf5
  v5 := Tryd.zeroValue5
  infoByte := by kernel_rfl
  cellsByte := by kernel_rfl
  sizeByte := by kernel_rfl
  neB5 := by decide
theorem bWriteByte (B b : Nat) (bs : List Value) (c : Int) (w : World) (h : Lib.IsBuilder 50 5 B b bs w) (hlen : bs.length + 1 ≤ 140737488355328) (hBw : B ≤ w.heap.size) :
    Calls Tryd.prog 21 #[.pointer (some ⟨b, 0, none⟩), .int .u8 c] w fun e w' => e = .returned .nilIface ∧ (Lib.BuilderAt 50 5 B b (.pointer (some ⟨b, 0, none⟩)) (bs ++ [.int .u8 c]) w' ∧ Below B w w') := Any.Builder_WriteByte lay167 extra167 B b bs c w h hlen hBw
shelf_lay Lays.n169 Nm 169 at Tryd as lay169
theorem extra169 : Builder.Extra Tryd.prog lay169_ren where
  sizeBuilder := by kernel_rfl
  liesBuilder := by kernel_rfl
  t5 := Tryd.underlying5
  a5 := Tryd.isAgg5
  z5 := Tryd.sizeOf5
  v5 := Tryd.zeroValue5
  infoByte := by kernel_rfl
  cellsByte := by kernel_rfl
  sizeByte := by kernel_rfl
  neB5 := by decide
theorem bString (B b : Nat) (l : List UInt8) (w : World) (h : Lib.IsBuilder 50 5 B b (Lib.byteCells l) w) (hBw : B ≤ w.heap.size) :
    Calls Tryd.prog 25 #[.pointer (some ⟨b, 0, none⟩)] w fun e w' => e = .returned (.string ⟨l.toArray⟩) ∧ Below B w w' := Any.Builder_String_any lay169 extra169 B b l w h hBw
shelf_lay Lays.n170 Nm 170 at Tryd as lay170
theorem bLen (B b : Nat) (bs : List Value) (w : World) (h : Lib.IsBuilder 50 5 B b bs w) :
    Calls Tryd.prog 24 #[.pointer (some ⟨b, 0, none⟩)] w fun e w' => e = .returned (.int .i64 bs.length) ∧ w' = w := Any.Builder_Len lay170 B b bs w h
shelf_lay Lays.n171 Nm 171 at Tryd as lay171
theorem itoaSm (i : Nat) (hi : i < 100) (w : World) :
    Calls Tryd.prog 23 #[.int .i64 i] w fun e w' => e = .returned (.string ⟨(Lib.decDigits i).toArray⟩) ∧ w' = w := Any.strconv_Itoa_small lay171 i hi w
end Go.Proofs.YtnfgiplgkobnlabDoor
