/-
  The library's strings.Builder, strconv.Itoa: contracts laid at this dump.
-/
import Derived.Test.YtoglomfejgpoeaaDoorRows
import Derived.Shelf.Lay
import Derived.Shelf.Strings.Builder1
import Derived.Shelf.Strconv.Itoa3
import Derived.Ground.NamesProg
namespace Go.Proofs.YtoglomfejgpoeaaDoor
open Go.Shelf Go.RowKit
set_option linter.unusedVariables false
def lay166_ren : Go.Shelf.Ren := ⟨fun | 0 => 0 | 1 => 1 | 2 => 2 | 129 => 61 | 156 => 20 | 165 => 29 | 166 => 30 | 167 => 51 | 169 => 31 | 170 => 52 | 171 => 40 | 240 => 42 | 241 => 43 | 243 => 49 | 246 => 55 | 276 => 53 | 277 => 54 | 283 => 56 | 284 => 57 | 285 => 58 | 286 => 59 | 317 => 60 | 318 => 62 | 319 => 63 | 320 => 64 | 337 => 65 | 338 => 66 | 347 => 67 | 348 => 68 | 349 => 69 | 350 => 70 | 351 => 71 | 352 => 72 | 353 => 73 | 354 => 74 | 355 => 75 | 356 => 76 | 357 => 77 | 358 => 78 | 359 => 79 | 360 => 80 | 361 => 81 | 362 => 82 | 366 => 83 | 367 => 90 | n => n, fun | 0 => 0 | 1 => 1 | 2 => 2 | 3 => 3 | 4 => 4 | 5 => 5 | 6 => 6 | 7 => 7 | 8 => 8 | 9 => 9 | 10 => 10 | 11 => 11 | 12 => 12 | 13 => 13 | 14 => 14 | 15 => 15 | 16 => 16 | 17 => 17 | 18 => 18 | 19 => 19 | 20 => 20 | 21 => 21 | 26 => 77 | 28 => 46 | 31 => 37 | 37 => 39 | 43 => 75 | 46 => 100 | 47 => 101 | 51 => 98 | 52 => 102 | 53 => 91 | 54 => 92 | 67 => 49 | 70 => 64 | 71 => 65 | 72 => 66 | 73 => 67 | 74 => 68 | 75 => 69 | 76 => 70 | 77 => 71 | 78 => 85 | 80 => 72 | 81 => 48 | 83 => 58 | 84 => 89 | 111 => 82 | 114 => 36 | 127 => 80 | 164 => 86 | 165 => 87 | 166 => 88 | 171 => 90 | 172 => 93 | 173 => 94 | 174 => 95 | 211 => 96 | 212 => 97 | 213 => 99 | 232 => 103 | 233 => 104 | 238 => 105 | 239 => 106 | 240 => 107 | 241 => 108 | 242 => 109 | 243 => 110 | 244 => 111 | 245 => 112 | 246 => 113 | 247 => 114 | 248 => 115 | 249 => 116 | n => n, fun n => n⟩
theorem lay166 : Lays.n166 Tryd.prog lay166_ren where
  mixed := by kernel_rfl
  f166 := Tryd.func30.trans (congrArg some (by kernel_rfl))
  f240 := Tryd.func42.trans (congrArg some (by kernel_rfl))
  f276 := Tryd.func53.trans (congrArg some (by kernel_rfl))
  t0 := Tryd.underlying0
  a0 := Tryd.isAgg0
  z0 := Tryd.sizeOf0
  v0 := Tryd.zeroValue0
  t3 := Tryd.underlying3
  a3 := Tryd.isAgg3
  z3 := Tryd.sizeOf3
  v3 := Tryd.zeroValue3
  t4 := Tryd.underlying4
  a4 := Tryd.isAgg4
  z4 := Tryd.sizeOf4
  v4 := Tryd.zeroValue4
  t9 := Tryd.underlying9
  a9 := Tryd.isAgg9
  z9 := Tryd.sizeOf9
  v9 := Tryd.zeroValue9
  t20 := Tryd.underlying20
  a20 := Tryd.isAgg20
  z20 := Tryd.sizeOf20
  v20 := Tryd.zeroValue20
  t37 := Tryd.underlying39
  a37 := Tryd.isAgg39
  z37 := Tryd.sizeOf39
  v37 := Tryd.zeroValue39
  t70 := Tryd.underlying64
  a70 := Tryd.isAgg64
  z70 := Tryd.sizeOf64
  v70 := Tryd.zeroValue64
  t72 := Tryd.underlying66
  a72 := Tryd.isAgg66
  z72 := Tryd.sizeOf66
  v72 := Tryd.zeroValue66
  t75 := Tryd.underlying69
  a75 := Tryd.isAgg69
  z75 := Tryd.sizeOf69
  v75 := Tryd.zeroValue69
  t164 := Tryd.underlying86
  a164 := Tryd.isAgg86
  z164 := Tryd.sizeOf86
  v164 := Tryd.zeroValue86
theorem extra166 : Builder.Extra Tryd.prog lay166_ren where
  sizeBuilder := by kernel_rfl
  liesBuilder := by kernel_rfl
  t5 := Tryd.underlying5
  a5 := Tryd.isAgg5
  z5 := Tryd.sizeOf5
  v5 := Tryd.zeroValue5
  infoByte := by kernel_rfl
  cellsByte := by kernel_rfl
  sizeByte := by kernel_rfl
  neB5 := by decide
theorem bWriteString (B b : Nat) (bs : List Value) (s : ByteArray) (w : World) (h : Lib.IsBuilder 66 5 B b bs w) (hlen : bs.length + s.size ≤ 140737488355328) (hBw : B ≤ w.heap.size) :
    Calls Tryd.prog 30 #[.pointer (some ⟨b, 0, none⟩), .string s] w fun e w' => e = .returned (.tuple #[.int .i64 s.size, .nilIface]) ∧ (Lib.BuilderAt 66 5 B b (.pointer (some ⟨b, 0, none⟩)) (bs ++ Lib.strCells s) w' ∧ Below B w w') := Any.Builder_WriteString lay166 extra166 B b bs s w h hlen hBw
def lay167_ren : Go.Shelf.Ren := ⟨fun | 0 => 0 | 1 => 1 | 2 => 2 | 129 => 61 | 156 => 20 | 165 => 29 | 166 => 30 | 167 => 51 | 169 => 31 | 170 => 52 | 171 => 40 | 240 => 42 | 241 => 43 | 243 => 49 | 246 => 55 | 276 => 53 | 277 => 54 | 283 => 56 | 284 => 57 | 285 => 58 | 286 => 59 | 317 => 60 | 318 => 62 | 319 => 63 | 320 => 64 | 337 => 65 | 338 => 66 | 347 => 67 | 348 => 68 | 349 => 69 | 350 => 70 | 351 => 71 | 352 => 72 | 353 => 73 | 354 => 74 | 355 => 75 | 356 => 76 | 357 => 77 | 358 => 78 | 359 => 79 | 360 => 80 | 361 => 81 | 362 => 82 | 366 => 83 | 367 => 90 | n => n, fun | 0 => 0 | 1 => 1 | 2 => 2 | 3 => 3 | 4 => 4 | 5 => 5 | 6 => 6 | 7 => 7 | 8 => 8 | 9 => 9 | 10 => 10 | 11 => 11 | 12 => 12 | 13 => 13 | 14 => 14 | 15 => 15 | 16 => 16 | 17 => 17 | 18 => 18 | 19 => 19 | 20 => 20 | 21 => 21 | 26 => 77 | 28 => 46 | 31 => 37 | 37 => 39 | 43 => 75 | 46 => 100 | 47 => 101 | 51 => 98 | 52 => 102 | 53 => 91 | 54 => 92 | 67 => 49 | 70 => 64 | 71 => 65 | 72 => 66 | 73 => 67 | 74 => 68 | 75 => 69 | 76 => 70 | 77 => 71 | 78 => 85 | 80 => 72 | 81 => 48 | 83 => 58 | 84 => 89 | 111 => 82 | 114 => 36 | 127 => 80 | 164 => 86 | 165 => 87 | 166 => 88 | 171 => 90 | 172 => 93 | 173 => 94 | 174 => 95 | 211 => 96 | 212 => 97 | 213 => 99 | 232 => 103 | 233 => 104 | 238 => 105 | 239 => 106 | 240 => 107 | 241 => 108 | 242 => 109 | 243 => 110 | 244 => 111 | 245 => 112 | 246 => 113 | 247 => 114 | 248 => 115 | 249 => 116 | n => n, fun n => n⟩
theorem lay167 : Lays.n167 Tryd.prog lay167_ren where
  mixed := by kernel_rfl
  f167 := Tryd.func51.trans (congrArg some (by kernel_rfl))
  f240 := Tryd.func42.trans (congrArg some (by kernel_rfl))
  f276 := Tryd.func53.trans (congrArg some (by kernel_rfl))
  t0 := Tryd.underlying0
  a0 := Tryd.isAgg0
  z0 := Tryd.sizeOf0
  v0 := Tryd.zeroValue0
  t4 := Tryd.underlying4
  a4 := Tryd.isAgg4
  z4 := Tryd.sizeOf4
  v4 := Tryd.zeroValue4
  t5 := Tryd.underlying5
  a5 := Tryd.isAgg5
  z5 := Tryd.sizeOf5
  v5 := Tryd.zeroValue5
  t9 := Tryd.underlying9
  a9 := Tryd.isAgg9
  z9 := Tryd.sizeOf9
  v9 := Tryd.zeroValue9
  t20 := Tryd.underlying20
  a20 := Tryd.isAgg20
  z20 := Tryd.sizeOf20
  v20 := Tryd.zeroValue20
  t37 := Tryd.underlying39
  a37 := Tryd.isAgg39
  z37 := Tryd.sizeOf39
  v37 := Tryd.zeroValue39
  t70 := Tryd.underlying64
  a70 := Tryd.isAgg64
  z70 := Tryd.sizeOf64
  v70 := Tryd.zeroValue64
  t72 := Tryd.underlying66
  a72 := Tryd.isAgg66
  z72 := Tryd.sizeOf66
  v72 := Tryd.zeroValue66
  t75 := Tryd.underlying69
  a75 := Tryd.isAgg69
  z75 := Tryd.sizeOf69
  v75 := Tryd.zeroValue69
  t164 := Tryd.underlying86
  a164 := Tryd.isAgg86
  z164 := Tryd.sizeOf86
  v164 := Tryd.zeroValue86
theorem extra167 : Builder.Extra Tryd.prog lay167_ren where
  sizeBuilder := by kernel_rfl
  liesBuilder := by kernel_rfl
  t5 := Tryd.underlying5
  a5 := Tryd.isAgg5
  z5 := Tryd.sizeOf5
  v5 := Tryd.zeroValue5
  infoByte := by kernel_rfl
  cellsByte := by kernel_rfl
  sizeByte := by kernel_rfl
  neB5 := by decide
theorem bWriteByte (B b : Nat) (bs : List Value) (c : Int) (w : World) (h : Lib.IsBuilder 66 5 B b bs w) (hlen : bs.length + 1 ≤ 140737488355328) (hBw : B ≤ w.heap.size) :
    Calls Tryd.prog 51 #[.pointer (some ⟨b, 0, none⟩), .int .u8 c] w fun e w' => e = .returned .nilIface ∧ (Lib.BuilderAt 66 5 B b (.pointer (some ⟨b, 0, none⟩)) (bs ++ [.int .u8 c]) w' ∧ Below B w w') := Any.Builder_WriteByte lay167 extra167 B b bs c w h hlen hBw
shelf_lay Lays.n169 Nm 169 at Tryd as lay169
theorem extra169 : Builder.Extra Tryd.prog lay169_ren where
  sizeBuilder := by kernel_rfl
  liesBuilder := by kernel_rfl
  t5 := Tryd.underlying5
  a5 := Tryd.isAgg5
  z5 := Tryd.sizeOf5
  v5 := Tryd.zeroValue5
  infoByte := by kernel_rfl
  cellsByte := by kernel_rfl
  sizeByte := by kernel_rfl
  neB5 := by decide
theorem bString (B b : Nat) (l : List UInt8) (w : World) (h : Lib.IsBuilder 66 5 B b (Lib.byteCells l) w) (hBw : B ≤ w.heap.size) :
    Calls Tryd.prog 31 #[.pointer (some ⟨b, 0, none⟩)] w fun e w' => e = .returned (.string ⟨l.toArray⟩) ∧ Below B w w' := Any.Builder_String_any lay169 extra169 B b l w h hBw
shelf_lay Lays.n170 Nm 170 at Tryd as lay170
theorem bLen (B b : Nat) (bs : List Value) (w : World) (h : Lib.IsBuilder 66 5 B b bs w) :
    Calls Tryd.prog 52 #[.pointer (some ⟨b, 0, none⟩)] w fun e w' => e = .returned (.int .i64 bs.length) ∧ w' = w := Any.Builder_Len lay170 B b bs w h
shelf_lay Lays.n171 Nm 171 at Tryd as lay171
theorem itoaSm (i : Nat) (hi : i < 100) (w : World) :
    Calls Tryd.prog 40 #[.int .i64 i] w fun e w' => e = .returned (.string ⟨(Lib.decDigits i).toArray⟩) ∧ w' = w := Any.strconv_Itoa_small lay171 i hi w
end Go.Proofs.YtoglomfejgpoeaaDoor
