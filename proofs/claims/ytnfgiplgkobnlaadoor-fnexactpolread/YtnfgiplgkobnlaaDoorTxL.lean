/-
  The library's strings.Builder, strconv.Itoa: contracts laid at this dump.
-/
import Derived.Test.YtnfgiplgkobnlaaDoorRows
import Derived.Shelf.Lay
import Derived.Shelf.Strings.Builder1
import Derived.Shelf.Strconv.Itoa3
import Derived.Ground.NamesProg
namespace Go.Proofs.YtnfgiplgkobnlaaDoor
open Go.Shelf Go.RowKit
set_option linter.unusedVariables false
def lay166_ren : Go.Shelf.Ren := ⟨fun | 0 => 0 | 1 => 1 | 2 => 2 | 103 => 51 | 129 => 92 | 143 => 77 | 156 => 42 | 165 => 60 | 166 => 28 | 167 => 27 | 169 => 31 | 170 => 30 | 171 => 29 | 172 => 53 | 197 => 76 | 205 => 98 | 206 => 82 | 210 => 65 | 217 => 99 | 219 => 90 | 224 => 101 | 225 => 100 | 240 => 48 | 241 => 74 | 243 => 49 | 244 => 66 | 245 => 67 | 246 => 64 | 247 => 83 | 260 => 89 | 266 => 107 | 267 => 102 | 276 => 63 | 277 => 88 | 279 => 84 | 280 => 85 | 281 => 86 | 282 => 87 | 283 => 78 | 284 => 79 | 285 => 80 | 286 => 81 | 287 => 96 | 314 => 108 | 316 => 97 | 317 => 91 | 318 => 93 | 319 => 94 | 320 => 95 | 321 => 105 | 322 => 106 | 337 => 103 | 338 => 104 | 347 => 109 | 348 => 110 | 349 => 111 | 350 => 112 | 351 => 113 | 352 => 114 | 353 => 115 | 354 => 116 | 355 => 117 | 356 => 118 | 357 => 119 | 358 => 120 | 359 => 121 | 360 => 122 | 361 => 123 | 362 => 124 | 363 => 127 | 364 => 125 | 365 => 126 | 366 => 128 | 367 => 138 | n => n, fun | 0 => 0 | 1 => 1 | 2 => 2 | 3 => 3 | 4 => 4 | 5 => 5 | 6 => 6 | 7 => 7 | 8 => 8 | 9 => 9 | 10 => 10 | 11 => 11 | 12 => 12 | 13 => 13 | 14 => 14 | 15 => 15 | 16 => 16 | 17 => 17 | 18 => 18 | 19 => 19 | 20 => 20 | 21 => 21 | 22 => 116 | 24 => 87 | 25 => 88 | 26 => 67 | 27 => 109 | 28 => 82 | 31 => 72 | 37 => 22 | 38 => 31 | 43 => 104 | 46 => 128 | 47 => 129 | 51 => 126 | 52 => 140 | 53 => 111 | 54 => 112 | 55 => 139 | 67 => 74 | 68 => 76 | 69 => 89 | 70 => 49 | 71 => 50 | 72 => 51 | 73 => 96 | 74 => 54 | 75 => 55 | 76 => 57 | 77 => 58 | 78 => 56 | 80 => 61 | 81 => 60 | 83 => 59 | 84 => 101 | 85 => 118 | 86 => 119 | 104 => 45 | 105 => 107 | 106 => 108 | 108 => 134 | 111 => 106 | 114 => 83 | 119 => 135 | 127 => 86 | 128 => 102 | 137 => 136 | 138 => 137 | 139 => 138 | 143 => 142 | 144 => 143 | 145 => 144 | 146 => 145 | 151 => 146 | 164 => 99 | 165 => 100 | 166 => 123 | 167 => 117 | 168 => 120 | 169 => 121 | 170 => 122 | 171 => 110 | 172 => 113 | 173 => 114 | 174 => 115 | 175 => 130 | 176 => 131 | 209 => 132 | 210 => 133 | 211 => 124 | 212 => 125 | 213 => 127 | 214 => 141 | 229 => 91 | 232 => 147 | 233 => 148 | 238 => 149 | 239 => 150 | 240 => 151 | 241 => 152 | 242 => 153 | 243 => 154 | 244 => 155 | 245 => 156 | 246 => 157 | 247 => 158 | 248 => 159 | 249 => 160 | n => n, fun n => n⟩
theorem lay166 : Lays.n166 Tryd.prog lay166_ren where
  mixed := by kernel_rfl
  f166 := Tryd.func28.trans (congrArg some (by kernel_rfl))
  f240 := Tryd.func48.trans (congrArg some (by kernel_rfl))
  f276 := Tryd.func63.trans (congrArg some (by kernel_rfl))
  t0 := Tryd.underlying0
  a0 := Tryd.isAgg0
  z0 := Tryd.sizeOf0
  v0 := Tryd.zeroValue0
  t3 := Tryd.underlying3
  a3 := Tryd.isAgg3
  z3 := Tryd.sizeOf3
  v3 := Tryd.zeroValue3
  t4 := Tryd.underlying4
  a4 := Tryd.isAgg4
  z4 := Tryd.sizeOf4
  v4 := Tryd.zeroValue4
  t9 := Tryd.underlying9
  a9 := Tryd.isAgg9
  z9 := Tryd.sizeOf9
  v9 := Tryd.zeroValue9
  t20 := Tryd.underlying20
  a20 := Tryd.isAgg20
  z20 := Tryd.sizeOf20
  v20 := Tryd.zeroValue20
  t37 := Tryd.underlying22
  a37 := Tryd.isAgg22
  z37 := Tryd.sizeOf22
  v37 := Tryd.zeroValue22
  t70 := Tryd.underlying49
  a70 := Tryd.isAgg49
  z70 := Tryd.sizeOf49
  v70 := Tryd.zeroValue49
  t72 := Tryd.underlying51
  a72 := Tryd.isAgg51
  z72 := Tryd.sizeOf51
  v72 := Tryd.zeroValue51
  t75 := Tryd.underlying55
  a75 := Tryd.isAgg55
  z75 := Tryd.sizeOf55
  v75 := Tryd.zeroValue55
  t164 := Tryd.underlying99
  a164 := Tryd.isAgg99
  z164 := Tryd.sizeOf99
  v164 := Tryd.zeroValue99
theorem extra166 : Builder.Extra Tryd.prog lay166_ren where
  sizeBuilder := by kernel_rfl
  liesBuilder := by kernel_rfl
  t5 := Tryd.underlying5
  a5 := Tryd.isAgg5
  z5 := Tryd.sizeOf5
  v5 := Tryd.zeroValue5
  infoByte := by kernel_rfl
  cellsByte := by kernel_rfl
  sizeByte := by kernel_rfl
  neB5 := by decide
theorem bWriteString (B b : Nat) (bs : List Value) (s : ByteArray) (w : World) (h : Lib.IsBuilder 51 5 B b bs w) (hlen : bs.length + s.size ≤ 140737488355328) (hBw : B ≤ w.heap.size) :
    Calls Tryd.prog 28 #[.pointer (some ⟨b, 0, none⟩), .string s] w fun e w' => e = .returned (.tuple #[.int .i64 s.size, .nilIface]) ∧ (Lib.BuilderAt 51 5 B b (.pointer (some ⟨b, 0, none⟩)) (bs ++ Lib.strCells s) w' ∧ Below B w w') := Any.Builder_WriteString lay166 extra166 B b bs s w h hlen hBw
def lay167_ren : Go.Shelf.Ren := ⟨fun | 0 => 0 | 1 => 1 | 2 => 2 | 103 => 51 | 129 => 92 | 143 => 77 | 156 => 42 | 165 => 60 | 166 => 28 | 167 => 27 | 169 => 31 | 170 => 30 | 171 => 29 | 172 => 53 | 197 => 76 | 205 => 98 | 206 => 82 | 210 => 65 | 217 => 99 | 219 => 90 | 224 => 101 | 225 => 100 | 240 => 48 | 241 => 74 | 243 => 49 | 244 => 66 | 245 => 67 | 246 => 64 | 247 => 83 | 260 => 89 | 266 => 107 | 267 => 102 | 276 => 63 | 277 => 88 | 279 => 84 | 280 => 85 | 281 => 86 | 282 => 87 | 283 => 78 | 284 => 79 | 285 => 80 | 286 => 81 | 287 => 96 | 314 => 108 | 316 => 97 | 317 => 91 | 318 => 93 | 319 => 94 | 320 => 95 | 321 => 105 | 322 => 106 | 337 => 103 | 338 => 104 | 347 => 109 | 348 => 110 | 349 => 111 | 350 => 112 | 351 => 113 | 352 => 114 | 353 => 115 | 354 => 116 | 355 => 117 | 356 => 118 | 357 => 119 | 358 => 120 | 359 => 121 | 360 => 122 | 361 => 123 | 362 => 124 | 363 => 127 | 364 => 125 | 365 => 126 | 366 => 128 | 367 => 138 | n => n, fun | 0 => 0 | 1 => 1 | 2 => 2 | 3 => 3 | 4 => 4 | 5 => 5 | 6 => 6 | 7 => 7 | 8 => 8 | 9 => 9 | 10 => 10 | 11 => 11 | 12 => 12 | 13 => 13 | 14 => 14 | 15 => 15 | 16 => 16 | 17 => 17 | 18 => 18 | 19 => 19 | 20 => 20 | 21 => 21 | 22 => 116 | 24 => 87 | 25 => 88 | 26 => 67 | 27 => 109 | 28 => 82 | 31 => 72 | 37 => 22 | 38 => 31 | 43 => 104 | 46 => 128 | 47 => 129 | 51 => 126 | 52 => 140 | 53 => 111 | 54 => 112 | 55 => 139 | 67 => 74 | 68 => 76 | 69 => 89 | 70 => 49 | 71 => 50 | 72 => 51 | 73 => 96 | 74 => 54 | 75 => 55 | 76 => 57 | 77 => 58 | 78 => 56 | 80 => 61 | 81 => 60 | 83 => 59 | 84 => 101 | 85 => 118 | 86 => 119 | 104 => 45 | 105 => 107 | 106 => 108 | 108 => 134 | 111 => 106 | 114 => 83 | 119 => 135 | 127 => 86 | 128 => 102 | 137 => 136 | 138 => 137 | 139 => 138 | 143 => 142 | 144 => 143 | 145 => 144 | 146 => 145 | 151 => 146 | 164 => 99 | 165 => 100 | 166 => 123 | 167 => 117 | 168 => 120 | 169 => 121 | 170 => 122 | 171 => 110 | 172 => 113 | 173 => 114 | 174 => 115 | 175 => 130 | 176 => 131 | 209 => 132 | 210 => 133 | 211 => 124 | 212 => 125 | 213 => 127 | 214 => 141 | 229 => 91 | 232 => 147 | 233 => 148 | 238 => 149 | 239 => 150 | 240 => 151 | 241 => 152 | 242 => 153 | 243 => 154 | 244 => 155 | 245 => 156 | 246 => 157 | 247 => 158 | 248 => 159 | 249 => 160 | n => n, fun n => n⟩
theorem lay167 : Lays.n167 Tryd.prog lay167_ren where
  mixed := by kernel_rfl
  f167 := Tryd.func27.trans (congrArg some (by kernel_rfl))
  f240 := Tryd.func48.trans (congrArg some (by kernel_rfl))
  f276 := Tryd.func63.trans (congrArg some (by kernel_rfl))
  t0 := Tryd.underlying0
  a0 := Tryd.isAgg0
  z0 := Tryd.sizeOf0
  v0 := Tryd.zeroValue0
  t4 := Tryd.underlying4
  a4 := Tryd.isAgg4
  z4 := Tryd.sizeOf4
  v4 := Tryd.zeroValue4
  t5 := Tryd.underlying5
  a5 := Tryd.isAgg5
  z5 := Tryd.sizeOf5
  v5 := Tryd.zeroValue5
  t9 := Tryd.underlying9
  a9 := Tryd.isAgg9
  z9 := Tryd.sizeOf9
  v9 := Tryd.zeroValue9
  t20 := Tryd.underlying20
  a20 := Tryd.isAgg20
  z20 := Tryd.sizeOf20
  v20 := Tryd.zeroValue20
  t37 := Tryd.underlying22
  a37 := Tryd.isAgg22
  z37 := Tryd.sizeOf22
  v37 := Tryd.zeroValue22
  t70 := Tryd.underlying49
  a70 := Tryd.isAgg49
  z70 := Tryd.sizeOf49
  v70 := Tryd.zeroValue49
  t72 := Tryd.underlying51
  a72 := Tryd.isAgg51
  z72 := Tryd.sizeOf51
  v72 := Tryd.zeroValue51
  t75 := Tryd.underlying55
  a75 := Tryd.isAgg55
  z75 := Tryd.sizeOf55
  v75 := Tryd.zeroValue55
  t164 := Tryd.underlying99
  a164 := Tryd.isAgg99
  z164 := Tryd.sizeOf99
  v164 := Tryd.zeroValue99
theorem extra167 : Builder.Extra Tryd.prog lay167_ren where
  sizeBuilder := by kernel_rfl
  liesBuilder := by kernel_rfl
  t5 := Tryd.underlying5
  a5 := Tryd.isAgg5
  z5 := Tryd.sizeOf5
  v5 := Tryd.zeroValue5
  infoByte := by kernel_rfl
  cellsByte := by kernel_rfl
  sizeByte := by kernel_rfl
  neB5 := by decide
theorem bWriteByte (B b : Nat) (bs : List Value) (c : Int) (w : World) (h : Lib.IsBuilder 51 5 B b bs w) (hlen : bs.length + 1 ≤ 140737488355328) (hBw : B ≤ w.heap.size) :
    Calls Tryd.prog 27 #[.pointer (some ⟨b, 0, none⟩), .int .u8 c] w fun e w' => e = .returned .nilIface ∧ (Lib.BuilderAt 51 5 B b (.pointer (some ⟨b, 0, none⟩)) (bs ++ [.int .u8 c]) w' ∧ Below B w w') := Any.Builder_WriteByte lay167 extra167 B b bs c w h hlen hBw
shelf_lay Lays.n169 Nm 169 at Tryd as lay169
theorem extra169 : Builder.Extra Tryd.prog lay169_ren where
  sizeBuilder := by kernel_rfl
  liesBuilder := by kernel_rfl
  t5 := Tryd.underlying5
  a5 := Tryd.isAgg5
  z5 := Tryd.sizeOf5
  v5 := Tryd.zeroValue5
  infoByte := by kernel_rfl
  cellsByte := by kernel_rfl
  sizeByte := by kernel_rfl
  neB5 := by decide
theorem bString (B b : Nat) (l : List UInt8) (w : World) (h : Lib.IsBuilder 51 5 B b (Lib.byteCells l) w) (hBw : B ≤ w.heap.size) :
    Calls Tryd.prog 31 #[.pointer (some ⟨b, 0, none⟩)] w fun e w' => e = .returned (.string ⟨l.toArray⟩) ∧ Below B w w' := Any.Builder_String_any lay169 extra169 B b l w h hBw
shelf_lay Lays.n170 Nm 170 at Tryd as lay170
theorem bLen (B b : Nat) (bs : List Value) (w : World) (h : Lib.IsBuilder 51 5 B b bs w) :
    Calls Tryd.prog 30 #[.pointer (some ⟨b, 0, none⟩)] w fun e w' => e = .returned (.int .i64 bs.length) ∧ w' = w := Any.Builder_Len lay170 B b bs w h
shelf_lay Lays.n171 Nm 171 at Tryd as lay171
theorem itoaSm (i : Nat) (hi : i < 100) (w : World) :
    Calls Tryd.prog 29 #[.int .i64 i] w fun e w' => e = .returned (.string ⟨(Lib.decDigits i).toArray⟩) ∧ w' = w := Any.strconv_Itoa_small lay171 i hi w
end Go.Proofs.YtnfgiplgkobnlaaDoor
