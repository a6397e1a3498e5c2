/-
  Reading an operator, as lists of bytes: the model's way and the program's are one.
  The library's strings.Builder, strconv.Itoa: contracts laid at this dump.
  The program's texts of monomials (MonText).
-/
import Derived.Test.YtoglomfejgpoeaaGreatDoorGae
import Derived.Test.YtoglomfejgpoeaaGreatDoorGaf
import Derived.Test.YtoglomfejgpoeaaGreatDoorRows
import Derived.Shelf.Lay
import Derived.Shelf.Strings.Builder1
import Derived.Shelf.Strconv.Itoa3
import Derived.Ground.NamesProg
import Derived.Test.YtoglomfejgpoeaaGreatDoorGac
namespace Go.Proofs.YtoglomfejgpoeaaGreatDoor
set_option linter.unusedVariables false
def wT (s : List UInt8) : List T := (cutL s).map trmR
/-- what PolRead answers. -/
def polR (s : List UInt8) : List T × Bool := if s = [48] then ([], true) else if s.length ≤ 400 ∧ (polOk (wT s).length (lf (wT s)) = true ∧ polT (wT s).length (lf (wT s)) = s) then (wT s, true) else ([], false)
theorem polR_zero : polR [48] = ([], true) := by unfold polR; rw [if_pos rfl]
theorem polR_yes {s : List UInt8} (h0 : s ≠ [48]) (h1 : s.length ≤ 400) (h2 : polOk (wT s).length (lf (wT s)) = true) (h3 : polT (wT s).length (lf (wT s)) = s) : polR s = (wT s, true) := by
  unfold polR; rw [if_neg h0, if_pos ⟨h1, h2, h3⟩]
theorem polR_no {s : List UInt8} (h0 : s ≠ [48]) (h : ¬ (s.length ≤ 400 ∧ (polOk (wT s).length (lf (wT s)) = true ∧ polT (wT s).length (lf (wT s)) = s))) : polR s = ([], false) := by
  unfold polR; rw [if_neg h0, if_neg h]
theorem wT_len (s : List UInt8) : (wT s).length = (cutL s).length := by unfold wT; simp
def okc (t : T) : Prop := (1 ≤ t.c ∧ t.c ≤ 100) ∧ M.ok t.m = true
/-- what the program reads of a word. -/
def TRd (w : List UInt8) (t : T) (b : Bool) : Prop := (b = true → okc t → trmT t = w) ∧ ∀ t0, okc t0 → trmT t0 = w → t = t0 ∧ b = true
theorem lf_at {L : List T} {i : Nat} {t : T} (h : L[i]? = some t) : lf L i = t := by unfold lf; rw [List.getD_eq_getElem?_getD, h]; rfl
theorem wrds_at (f : Nat → T) : ∀ {k i : Nat}, i < k → (wrds f k)[i]? = some (trmT (f i))
  | 0, i, h => by omega
  | k + 1, i, h => by
    unfold wrds
    by_cases e : i < k
    · rw [List.getElem?_append_left (by rw [wrds_len]; exact e), wrds_at f e]
    · have : i = k := by omega
      subst this
      rw [List.getElem?_append_right (by rw [wrds_len]; omega), wrds_len]
      simp
/-- the words of what is read are the texts of its terms. -/
theorem polR_words {s : List UInt8} (h0 : s ≠ [48]) (h : (polR s).2 = true) : s.length ≤ 400 ∧ ∃ (n : Nat) (f : Nat → T), n ≠ 0 ∧ polOk n f = true ∧ cutL s = wrds f n ∧ (∀ i, i < n → okc (f i)) ∧ (wT s).length = n ∧ (∀ i, i < n → lf (wT s) i = f i) := by
  by_cases q : s.length ≤ 400 ∧ (polOk (wT s).length (lf (wT s)) = true ∧ polT (wT s).length (lf (wT s)) = s)
  · obtain ⟨q1, q2, q3⟩ := q
    have hne : (wT s).length ≠ 0 := by
      rw [wT_len]
      intro e
      exact cut_ne s (List.length_eq_zero_iff.1 e)
    refine ⟨q1, _, _, hne, q2, ?_, fun i hi => (polOk_is q2).2 i hi, rfl, fun i _ => rfl⟩
    have := cut_polT q2 hne
    rw [q3] at this
    exact this
  · rw [polR_no h0 q] at h
    cases h
theorem okc_wT {s : List UInt8} : True := trivial
/-- all words were read, and it is an operator. -/
theorem polR_all {s : List UInt8} {ts : List T} (h0 : s ≠ [48]) (hs : s.length ≤ 400) (hl : ts.length = (cutL s).length) (hr : ∀ (i : Nat) (w : List UInt8) (t : T), (cutL s)[i]? = some w → ts[i]? = some t → TRd w t true) (hok : polOk ts.length (lf ts) = true) : polR s = (ts, true) := by
  have hts : wT s = ts := by
    apply List.ext_getElem?
    intro i
    unfold wT
    rw [List.getElem?_map]
    by_cases hi : i < ts.length
    · obtain ⟨t, ht⟩ : ∃ t, ts[i]? = some t := ⟨_, List.getElem?_eq_getElem hi⟩
      obtain ⟨w, hw⟩ : ∃ w, (cutL s)[i]? = some w := ⟨_, List.getElem?_eq_getElem (by omega)⟩
      have hk : okc t := by
        have := (polOk_is hok).2 i hi
        rw [lf_at ht] at this
        exact this
      have e := (hr i w t hw ht).1 rfl hk
      rw [hw, ht]
      show some (trmR w) = some t
      rw [← e, trmR_trm hk.1.1 hk.1.2 hk.2]
    · rw [List.getElem?_eq_none (by omega), List.getElem?_eq_none (by omega)]
      rfl
  have hn : ts.length ≠ 0 := by rw [hl]; intro e; exact cut_ne s (List.length_eq_zero_iff.1 e)
  have hw : cutL s = wrds (lf ts) ts.length := by
    apply List.ext_getElem?
    intro i
    by_cases hi : i < ts.length
    · obtain ⟨t, ht⟩ : ∃ t, ts[i]? = some t := ⟨_, List.getElem?_eq_getElem hi⟩
      obtain ⟨w, hw⟩ : ∃ w, (cutL s)[i]? = some w := ⟨_, List.getElem?_eq_getElem (by omega)⟩
      have hk : okc t := by
        have := (polOk_is hok).2 i hi
        rw [lf_at ht] at this
        exact this
      have e := (hr i w t hw ht).1 rfl hk
      rw [hw, wrds_at _ hi, lf_at ht, e]
    · rw [List.getElem?_eq_none (by omega), List.getElem?_eq_none (by rw [wrds_len]; omega)]
  have ht : polT ts.length (lf ts) = s := by
    rw [polT_is hok hn, ← jn_wrds, ← hw, jn_cut]
  have := polR_yes h0 hs (by rw [hts]; exact hok) (by rw [hts]; exact ht)
  rw [hts] at this
  exact this
/-- a word was not read. -/
theorem polR_bad {s : List UInt8} {i : Nat} {w : List UInt8} {t : T} (h0 : s ≠ [48]) (hw : (cutL s)[i]? = some w) (hr : TRd w t false) : polR s = ([], false) := by
  cases h : (polR s).2
  · unfold polR at h ⊢
    rw [if_neg h0] at h ⊢
    split at h
    · cases h
    · rename_i q
      rw [if_neg q]
  · obtain ⟨_, n, f, hn, hok, hc, hk, _, _⟩ := polR_words h0 h
    have hi : i < n := by
      have := (List.getElem?_eq_some_iff.1 hw).1
      rw [hc, wrds_len] at this
      exact this
    rw [hc, wrds_at f hi] at hw
    cases hw
    exact absurd (hr.2 (f i) (hk i hi) rfl).2 (by simp)
/-- all words were read, but it is no operator. -/
theorem polR_not {s : List UInt8} {ts : List T} (h0 : s ≠ [48]) (hl : ts.length = (cutL s).length) (hr : ∀ (i : Nat) (w : List UInt8) (t : T), (cutL s)[i]? = some w → ts[i]? = some t → TRd w t true) (hok : polOk ts.length (lf ts) = false) : polR s = ([], false) := by
  cases h : (polR s).2
  · unfold polR at h ⊢
    rw [if_neg h0] at h ⊢
    split at h
    · cases h
    · rename_i q
      rw [if_neg q]
  · obtain ⟨_, n, f, hn, hok', hc, hk, hl', hf⟩ := polR_words h0 h
    have hts : wT s = ts := by
      apply List.ext_getElem?
      intro i
      by_cases hi : i < ts.length
      · obtain ⟨t, ht⟩ : ∃ t, ts[i]? = some t := ⟨_, List.getElem?_eq_getElem hi⟩
        obtain ⟨w, hw⟩ : ∃ w, (cutL s)[i]? = some w := ⟨_, List.getElem?_eq_getElem (by omega)⟩
        have hin : i < n := by
          have := (List.getElem?_eq_some_iff.1 hw).1
          rw [hc, wrds_len] at this
          exact this
        have hw' := hw
        rw [hc, wrds_at f hin] at hw'
        have e := (hr i w t hw ht).2 (f i) (hk i hin) (by cases hw'; rfl)
        have hx : (wT s)[i]? = some (lf (wT s) i) := by
          unfold lf
          rw [List.getD_eq_getElem?_getD, List.getElem?_eq_getElem (by omega)]
          rfl
        rw [hx, hf i hin, ht, e.1]
      · rw [List.getElem?_eq_none (by rw [wT_len]; omega), List.getElem?_eq_none (by omega)]
    have h2 : polOk (wT s).length (lf (wT s)) = true := by
      unfold polR at h
      rw [if_neg h0] at h
      split at h
      · rename_i q
        exact q.2.1
      · cases h
    rw [hts, hok] at h2
    cases h2
end Go.Proofs.YtoglomfejgpoeaaGreatDoor
namespace Go.Proofs.YtoglomfejgpoeaaGreatDoor
open Go.Shelf Go.RowKit
set_option linter.unusedVariables false
def lay166_ren : Go.Shelf.Ren := ⟨fun | 0 => 0 | 1 => 1 | 2 => 2 | 103 => 226 | 122 => 154 | 125 => 199 | 128 => 219 | 129 => 192 | 138 => 189 | 143 => 136 | 145 => 50 | 147 => 137 | 156 => 71 | 165 => 112 | 166 => 113 | 167 => 170 | 169 => 114 | 170 => 171 | 171 => 63 | 172 => 186 | 195 => 205 | 197 => 201 | 205 => 237 | 206 => 242 | 210 => 238 | 215 => 179 | 217 => 157 | 218 => 206 | 219 => 134 | 220 => 94 | 221 => 163 | 224 => 159 | 225 => 158 | 240 => 143 | 241 => 144 | 243 => 109 | 244 => 202 | 245 => 203 | 246 => 141 | 247 => 221 | 260 => 220 | 266 => 182 | 267 => 160 | 268 => 188 | 276 => 172 | 277 => 173 | 279 => 222 | 280 => 223 | 281 => 224 | 282 => 225 | 283 => 166 | 284 => 167 | 285 => 168 | 286 => 169 | 287 => 235 | 314 => 183 | 316 => 236 | 317 => 191 | 318 => 193 | 319 => 194 | 320 => 195 | 321 => 240 | 322 => 241 | 329 => 231 | 330 => 232 | 337 => 209 | 338 => 210 | 347 => 243 | 348 => 244 | 349 => 245 | 350 => 246 | 351 => 247 | 352 => 248 | 353 => 249 | 354 => 250 | 355 => 251 | 356 => 252 | 357 => 253 | 358 => 254 | 359 => 255 | 360 => 256 | 361 => 257 | 362 => 258 | 363 => 261 | 364 => 259 | 365 => 260 | 366 => 262 | 367 => 273 | n => n, fun | 0 => 0 | 1 => 1 | 2 => 2 | 3 => 3 | 4 => 4 | 5 => 5 | 6 => 6 | 7 => 7 | 8 => 8 | 9 => 9 | 10 => 10 | 11 => 11 | 12 => 12 | 13 => 13 | 14 => 14 | 15 => 15 | 16 => 16 | 17 => 17 | 18 => 18 | 19 => 19 | 20 => 20 | 21 => 21 | 22 => 254 | 24 => 228 | 25 => 229 | 26 => 162 | 27 => 158 | 28 => 90 | 31 => 46 | 37 => 51 | 38 => 55 | 43 => 115 | 46 => 174 | 47 => 205 | 51 => 195 | 52 => 213 | 53 => 183 | 54 => 184 | 55 => 173 | 59 => 68 | 60 => 69 | 62 => 159 | 67 => 93 | 68 => 63 | 69 => 199 | 70 => 127 | 71 => 128 | 72 => 129 | 73 => 130 | 74 => 131 | 75 => 132 | 76 => 133 | 77 => 134 | 78 => 188 | 80 => 135 | 81 => 92 | 83 => 81 | 84 => 163 | 85 => 223 | 86 => 224 | 101 => 49 | 102 => 48 | 103 => 66 | 104 => 29 | 105 => 209 | 106 => 210 | 108 => 247 | 111 => 155 | 113 => 180 | 114 => 65 | 119 => 239 | 127 => 164 | 128 => 211 | 131 => 220 | 137 => 240 | 138 => 241 | 139 => 242 | 143 => 251 | 144 => 252 | 145 => 253 | 146 => 196 | 150 => 201 | 151 => 197 | 164 => 189 | 165 => 190 | 166 => 191 | 167 => 222 | 168 => 225 | 169 => 226 | 170 => 227 | 171 => 182 | 172 => 185 | 173 => 186 | 174 => 187 | 175 => 243 | 176 => 244 | 182 => 215 | 183 => 216 | 209 => 245 | 210 => 246 | 211 => 202 | 212 => 203 | 213 => 204 | 214 => 250 | 218 => 233 | 219 => 234 | 220 => 235 | 222 => 237 | 228 => 248 | 229 => 156 | 232 => 231 | 233 => 232 | 238 => 255 | 239 => 256 | 240 => 257 | 241 => 258 | 242 => 259 | 243 => 260 | 244 => 261 | 245 => 262 | 246 => 263 | 247 => 264 | 248 => 265 | 249 => 266 | n => n, fun n => n⟩
theorem lay166 : Lays.n166 Tryz.prog lay166_ren where
  mixed := by kernel_rfl
  f166 := Tryz.func113.trans (congrArg some (by kernel_rfl))
  f240 := Tryz.func143.trans (congrArg some (by kernel_rfl))
  f276 := Tryz.func172.trans (congrArg some (by kernel_rfl))
  t0 := Tryz.underlying0
  a0 := Tryz.isAgg0
  z0 := Tryz.sizeOf0
  v0 := Tryz.zeroValue0
  t3 := Tryz.underlying3
  a3 := Tryz.isAgg3
  z3 := Tryz.sizeOf3
  v3 := Tryz.zeroValue3
  t4 := Tryz.underlying4
  a4 := Tryz.isAgg4
  z4 := Tryz.sizeOf4
  v4 := Tryz.zeroValue4
  t9 := Tryz.underlying9
  a9 := Tryz.isAgg9
  z9 := Tryz.sizeOf9
  v9 := Tryz.zeroValue9
  t20 := Tryz.underlying20
  a20 := Tryz.isAgg20
  z20 := Tryz.sizeOf20
  v20 := Tryz.zeroValue20
  t37 := Tryz.underlying51
  a37 := Tryz.isAgg51
  z37 := Tryz.sizeOf51
  v37 := Tryz.zeroValue51
  t70 := Tryz.underlying127
  a70 := Tryz.isAgg127
  z70 := Tryz.sizeOf127
  v70 := Tryz.zeroValue127
  t72 := Tryz.underlying129
  a72 := Tryz.isAgg129
  z72 := Tryz.sizeOf129
  v72 := Tryz.zeroValue129
  t75 := Tryz.underlying132
  a75 := Tryz.isAgg132
  z75 := Tryz.sizeOf132
  v75 := Tryz.zeroValue132
  t164 := Tryz.underlying189
  a164 := Tryz.isAgg189
  z164 := Tryz.sizeOf189
  v164 := Tryz.zeroValue189
theorem extra166 : Builder.Extra Tryz.prog lay166_ren where
  sizeBuilder := by kernel_rfl
  liesBuilder := by kernel_rfl
  t5 := Tryz.underlying5
  a5 := Tryz.isAgg5
  z5 := Tryz.sizeOf5
  v5 := Tryz.zeroValue5
  infoByte := by kernel_rfl
  cellsByte := by kernel_rfl
  sizeByte := by kernel_rfl
  neB5 := by decide
theorem bWriteString (B b : Nat) (bs : List Value) (s : ByteArray) (w : World) (h : Lib.IsBuilder 129 5 B b bs w) (hlen : bs.length + s.size ≤ 140737488355328) (hBw : B ≤ w.heap.size) :
    Calls Tryz.prog 113 #[.pointer (some ⟨b, 0, none⟩), .string s] w fun e w' => e = .returned (.tuple #[.int .i64 s.size, .nilIface]) ∧ (Lib.BuilderAt 129 5 B b (.pointer (some ⟨b, 0, none⟩)) (bs ++ Lib.strCells s) w' ∧ Below B w w') := Any.Builder_WriteString lay166 extra166 B b bs s w h hlen hBw
def lay167_ren : Go.Shelf.Ren := ⟨fun | 0 => 0 | 1 => 1 | 2 => 2 | 103 => 226 | 122 => 154 | 125 => 199 | 128 => 219 | 129 => 192 | 138 => 189 | 143 => 136 | 145 => 50 | 147 => 137 | 156 => 71 | 165 => 112 | 166 => 113 | 167 => 170 | 169 => 114 | 170 => 171 | 171 => 63 | 172 => 186 | 195 => 205 | 197 => 201 | 205 => 237 | 206 => 242 | 210 => 238 | 215 => 179 | 217 => 157 | 218 => 206 | 219 => 134 | 220 => 94 | 221 => 163 | 224 => 159 | 225 => 158 | 240 => 143 | 241 => 144 | 243 => 109 | 244 => 202 | 245 => 203 | 246 => 141 | 247 => 221 | 260 => 220 | 266 => 182 | 267 => 160 | 268 => 188 | 276 => 172 | 277 => 173 | 279 => 222 | 280 => 223 | 281 => 224 | 282 => 225 | 283 => 166 | 284 => 167 | 285 => 168 | 286 => 169 | 287 => 235 | 314 => 183 | 316 => 236 | 317 => 191 | 318 => 193 | 319 => 194 | 320 => 195 | 321 => 240 | 322 => 241 | 329 => 231 | 330 => 232 | 337 => 209 | 338 => 210 | 347 => 243 | 348 => 244 | 349 => 245 | 350 => 246 | 351 => 247 | 352 => 248 | 353 => 249 | 354 => 250 | 355 => 251 | 356 => 252 | 357 => 253 | 358 => 254 | 359 => 255 | 360 => 256 | 361 => 257 | 362 => 258 | 363 => 261 | 364 => 259 | 365 => 260 | 366 => 262 | 367 => 273 | n => n, fun | 0 => 0 | 1 => 1 | 2 => 2 | 3 => 3 | 4 => 4 | 5 => 5 | 6 => 6 | 7 => 7 | 8 => 8 | 9 => 9 | 10 => 10 | 11 => 11 | 12 => 12 | 13 => 13 | 14 => 14 | 15 => 15 | 16 => 16 | 17 => 17 | 18 => 18 | 19 => 19 | 20 => 20 | 21 => 21 | 22 => 254 | 24 => 228 | 25 => 229 | 26 => 162 | 27 => 158 | 28 => 90 | 31 => 46 | 37 => 51 | 38 => 55 | 43 => 115 | 46 => 174 | 47 => 205 | 51 => 195 | 52 => 213 | 53 => 183 | 54 => 184 | 55 => 173 | 59 => 68 | 60 => 69 | 62 => 159 | 67 => 93 | 68 => 63 | 69 => 199 | 70 => 127 | 71 => 128 | 72 => 129 | 73 => 130 | 74 => 131 | 75 => 132 | 76 => 133 | 77 => 134 | 78 => 188 | 80 => 135 | 81 => 92 | 83 => 81 | 84 => 163 | 85 => 223 | 86 => 224 | 101 => 49 | 102 => 48 | 103 => 66 | 104 => 29 | 105 => 209 | 106 => 210 | 108 => 247 | 111 => 155 | 113 => 180 | 114 => 65 | 119 => 239 | 127 => 164 | 128 => 211 | 131 => 220 | 137 => 240 | 138 => 241 | 139 => 242 | 143 => 251 | 144 => 252 | 145 => 253 | 146 => 196 | 150 => 201 | 151 => 197 | 164 => 189 | 165 => 190 | 166 => 191 | 167 => 222 | 168 => 225 | 169 => 226 | 170 => 227 | 171 => 182 | 172 => 185 | 173 => 186 | 174 => 187 | 175 => 243 | 176 => 244 | 182 => 215 | 183 => 216 | 209 => 245 | 210 => 246 | 211 => 202 | 212 => 203 | 213 => 204 | 214 => 250 | 218 => 233 | 219 => 234 | 220 => 235 | 222 => 237 | 228 => 248 | 229 => 156 | 232 => 231 | 233 => 232 | 238 => 255 | 239 => 256 | 240 => 257 | 241 => 258 | 242 => 259 | 243 => 260 | 244 => 261 | 245 => 262 | 246 => 263 | 247 => 264 | 248 => 265 | 249 => 266 | n => n, fun n => n⟩
theorem lay167 : Lays.n167 Tryz.prog lay167_ren where
  mixed := by kernel_rfl
  f167 := Tryz.func170.trans (congrArg some (by kernel_rfl))
  f240 := Tryz.func143.trans (congrArg some (by kernel_rfl))
  f276 := Tryz.func172.trans (congrArg some (by kernel_rfl))
  t0 := Tryz.underlying0
  a0 := Tryz.isAgg0
  z0 := Tryz.sizeOf0
  v0 := Tryz.zeroValue0
  t4 := Tryz.underlying4
  a4 := Tryz.isAgg4
  z4 := Tryz.sizeOf4
  v4 := Tryz.zeroValue4
  t5 := Tryz.underlying5
  a5 := Tryz.isAgg5
  z5 := Tryz.sizeOf5
  v5 := Tryz.zeroValue5
  t9 := Tryz.underlying9
  a9 := Tryz.isAgg9
  z9 := Tryz.sizeOf9
  v9 := Tryz.zeroValue9
  t20 := Tryz.underlying20
  a20 := Tryz.isAgg20
  z20 := Tryz.sizeOf20
  v20 := Tryz.zeroValue20
  t37 := Tryz.underlying51
  a37 := Tryz.isAgg51
  z37 := Tryz.sizeOf51
  v37 := Tryz.zeroValue51
  t70 := Tryz.underlying127
  a70 := Tryz.isAgg127
  z70 := Tryz.sizeOf127
  v70 := Tryz.zeroValue127
  t72 := Tryz.underlying129
  a72 := Tryz.isAgg129
  z72 := Tryz.sizeOf129
  v72 := Tryz.zeroValue129
  t75 := Tryz.underlying132
  a75 := Tryz.isAgg132
  z75 := Tryz.sizeOf132
  v75 := Tryz.zeroValue132
  t164 := Tryz.underlying189
  a164 := Tryz.isAgg189
  z164 := Tryz.sizeOf189
  v164 := Tryz.zeroValue189
theorem extra167 : Builder.Extra Tryz.prog lay167_ren where
  sizeBuilder := by kernel_rfl
  liesBuilder := by kernel_rfl
  t5 := Tryz.underlying5
  a5 := Tryz.isAgg5
  z5 := Tryz.sizeOf5
  v5 := Tryz.zeroValue5
  infoByte := by kernel_rfl
  cellsByte := by kernel_rfl
  sizeByte := by kernel_rfl
  neB5 := by decide
theorem bWriteByte (B b : Nat) (bs : List Value) (c : Int) (w : World) (h : Lib.IsBuilder 129 5 B b bs w) (hlen : bs.length + 1 ≤ 140737488355328) (hBw : B ≤ w.heap.size) :
    Calls Tryz.prog 170 #[.pointer (some ⟨b, 0, none⟩), .int .u8 c] w fun e w' => e = .returned .nilIface ∧ (Lib.BuilderAt 129 5 B b (.pointer (some ⟨b, 0, none⟩)) (bs ++ [.int .u8 c]) w' ∧ Below B w w') := Any.Builder_WriteByte lay167 extra167 B b bs c w h hlen hBw
shelf_lay Lays.n169 Nm 169 at Tryz as lay169
theorem extra169 : Builder.Extra Tryz.prog lay169_ren where
  sizeBuilder := by kernel_rfl
  liesBuilder := by kernel_rfl
  t5 := Tryz.underlying5
  a5 := Tryz.isAgg5
  z5 := Tryz.sizeOf5
  v5 := Tryz.zeroValue5
  infoByte := by kernel_rfl
  cellsByte := by kernel_rfl
  sizeByte := by kernel_rfl
  neB5 := by decide
theorem bString (B b : Nat) (l : List UInt8) (w : World) (h : Lib.IsBuilder 129 5 B b (Lib.byteCells l) w) (hBw : B ≤ w.heap.size) :
    Calls Tryz.prog 114 #[.pointer (some ⟨b, 0, none⟩)] w fun e w' => e = .returned (.string ⟨l.toArray⟩) ∧ Below B w w' := Any.Builder_String_any lay169 extra169 B b l w h hBw
shelf_lay Lays.n170 Nm 170 at Tryz as lay170
theorem bLen (B b : Nat) (bs : List Value) (w : World) (h : Lib.IsBuilder 129 5 B b bs w) :
    Calls Tryz.prog 171 #[.pointer (some ⟨b, 0, none⟩)] w fun e w' => e = .returned (.int .i64 bs.length) ∧ w' = w := Any.Builder_Len lay170 B b bs w h
shelf_lay Lays.n171 Nm 171 at Tryz as lay171
theorem itoaSm (i : Nat) (hi : i < 100) (w : World) :
    Calls Tryz.prog 63 #[.int .i64 i] w fun e w' => e = .returned (.string ⟨(Lib.decDigits i).toArray⟩) ∧ w' = w := Any.strconv_Itoa_small lay171 i hi w
end Go.Proofs.YtoglomfejgpoeaaGreatDoor
namespace Go.Proofs.YtoglomfejgpoeaaGreatDoor
open Go.RowKit
set_option linter.unusedVariables false
set_option linter.unusedSimpArgs false

theorem bc_snoc (l : List UInt8) (c : UInt8) : Lib.byteCells l ++ [.int .u8 (c.toNat : Int)] = Lib.byteCells (l ++ [c]) := by rw [Lib.byteCells_append]; rfl
theorem bc_str (l : List UInt8) (s : List UInt8) : Lib.byteCells l ++ Lib.strCells ⟨s.toArray⟩ = Lib.byteCells (l ++ s) := by rw [Lib.strCells_eq, Lib.byteCells_append]
theorem bld_byte {B b : Nat} {l : List UInt8} {c : UInt8} {w : World} (h : Lib.BuilderAt 129 5 B b (.pointer (some ⟨b, 0, none⟩)) (Lib.byteCells l ++ [.int .u8 (c.toNat : Int)]) w) : Lib.IsBuilder 129 5 B b (Lib.byteCells (l ++ [c])) w := by
  rw [bc_snoc] at h; exact .inr h
theorem bld_str {B b : Nat} {l s : List UInt8} {w : World} (h : Lib.BuilderAt 129 5 B b (.pointer (some ⟨b, 0, none⟩)) (Lib.byteCells l ++ Lib.strCells ⟨s.toArray⟩) w) : Lib.IsBuilder 129 5 B b (Lib.byteCells (l ++ s)) w := by
  rw [bc_str] at h; exact .inr h
theorem bld_fresh {w w' : World} (h : Below (w.alloc (.cells #[.pointer none, .slice none 0 0] 129)).heap.size (w.alloc (.cells #[.pointer none, .slice none 0 0] 129)) w') : Lib.IsBuilder 129 5 w.heap.size w.heap.size (Lib.byteCells []) w' :=
  .inl ⟨Nat.le_refl _, .slice none 0 0, (h.block w.heap.size (by simp)).trans (Go.heap_alloc_new w _), World.ownsRow_nil _ _ _ _, by simp [Value.ownBlock]⟩
/-- one factor is written. -/
def Fac (B : Nat) (w : World) (l : List UInt8) (wr : World) : Prop := Lib.IsBuilder 129 5 B B (Lib.byteCells l) wr ∧ Below B w wr
theorem Fac.size {B : Nat} {w wr : World} {l : List UInt8} (h : Fac B w l wr) (hB : B ≤ w.heap.size) : B ≤ wr.heap.size := Nat.le_trans hB h.2.size
theorem Fac.byte {B : Nat} {w wr : World} {l : List UInt8} (h : Fac B w l wr) (hB : B ≤ w.heap.size) (hl : l.length ≤ 100) (c : UInt8) : Calls Tryz.prog 170 #[.pointer (some ⟨B, 0, none⟩), .int .u8 (c.toNat : Int)] wr fun e w' => e = .returned .nilIface ∧ Fac B w (l ++ [c]) w' :=
  (bWriteByte B B _ _ wr h.1 (by rw [Lib.byteCells_length]; omega) (h.size hB)).mono fun e w' ⟨he, h1, h2⟩ => ⟨he, bld_byte h1, h.2.trans h2⟩
theorem Fac.str {B : Nat} {w wr : World} {l : List UInt8} (h : Fac B w l wr) (hB : B ≤ w.heap.size) (hl : l.length ≤ 100) (s : List UInt8) (hs : s.length ≤ 100) : Calls Tryz.prog 113 #[.pointer (some ⟨B, 0, none⟩), .string ⟨s.toArray⟩] wr fun e w' => (∃ v, e = .returned v) ∧ Fac B w (l ++ s) w' :=
  (bWriteString B B _ _ wr h.1 (by
    rw [Lib.byteCells_length]
    have : (⟨s.toArray⟩ : ByteArray).size = s.length := by simp [ByteArray.size]
    omega) (h.size hB)).mono fun e w' ⟨he, h1, h2⟩ => ⟨⟨_, he⟩, bld_str h1, h.2.trans h2⟩
set_option maxRecDepth 100000 in
set_option maxHeartbeats 4000000 in
theorem monTextI (x y d e : Int) (w : World) :
    Calls Tryz.prog 142 #[.agg #[.int .i64 x, .int .i64 y, .int .i64 d, .int .i64 e]] w fun r w' => r = .returned (.string ⟨(monT ⟨x, y, d, e⟩).toArray⟩) ∧ Below w.heap.size w w' := by
  obtain ⟨ok, hok⟩ : ∃ b, M.ok ⟨x, y, d, e⟩ = b := ⟨_, rfl⟩
  have HOK := Hid.mk' hok
  clear hok
  cases ok
  · have he := monT_no HOK.out
    have HE := Hid.mk' he
    clear he
    go_enter Tryz.func142, Tryz.ntmps142
    go_wp2_with fail
    refine (monOkI_of HOK.out _).mono ?_
    rintro r w1 ⟨rfl, hb⟩
    go_wp2
    go_ret
    exact ⟨by rw [HE.out]; rfl, bel_next (bel_one w _) hb⟩
  · obtain ⟨x1, x2, y1, y2, d1, d2, e1, e2⟩ := M.ok_iff.1 HOK.out
    simp only at x1 x2 y1 y2 d1 d2 e1 e2
    have i0 : ∀ w : World, (Instr.index 151 (.agg #[.int .i64 x, .int .i64 y, .int .i64 d, .int .i64 e]) (.int .i64 0)).run Tryz.prog w = .ok (.int .i64 x) w := fun _ => by kernel_rfl
    have i1 : ∀ w : World, (Instr.index 151 (.agg #[.int .i64 x, .int .i64 y, .int .i64 d, .int .i64 e]) (.int .i64 1)).run Tryz.prog w = .ok (.int .i64 y) w := fun _ => by kernel_rfl
    have i2 : ∀ w : World, (Instr.index 151 (.agg #[.int .i64 x, .int .i64 y, .int .i64 d, .int .i64 e]) (.int .i64 2)).run Tryz.prog w = .ok (.int .i64 d) w := fun _ => by kernel_rfl
    have i3 : ∀ w : World, (Instr.index 151 (.agg #[.int .i64 x, .int .i64 y, .int .i64 d, .int .i64 e]) (.int .i64 3)).run Tryz.prog w = .ok (.int .i64 e) w := fun _ => by kernel_rfl
    have j0 : ∀ w : World, (Instr.index 9 (.string ⟨#[120, 121, 100, 101]⟩) (.int .i64 0)).run Tryz.prog w = .ok (.int .u8 ((120 : UInt8).toNat : Int)) w := fun _ => by kernel_rfl
    have j1 : ∀ w : World, (Instr.index 9 (.string ⟨#[120, 121, 100, 101]⟩) (.int .i64 1)).run Tryz.prog w = .ok (.int .u8 ((121 : UInt8).toNat : Int)) w := fun _ => by kernel_rfl
    have j2 : ∀ w : World, (Instr.index 9 (.string ⟨#[120, 121, 100, 101]⟩) (.int .i64 2)).run Tryz.prog w = .ok (.int .u8 ((100 : UInt8).toNat : Int)) w := fun _ => by kernel_rfl
    have j3 : ∀ w : World, (Instr.index 9 (.string ⟨#[120, 121, 100, 101]⟩) (.int .i64 3)).run Tryz.prog w = .ok (.int .u8 ((101 : UInt8).toNat : Int)) w := fun _ => by kernel_rfl
    have HLEN := Hid.mk' (txTo_len HOK.out)
    have HT := Hid.mk' (show ∀ k, txTo ⟨x, y, d, e⟩ (k + 1) = txTo ⟨x, y, d, e⟩ k ++ fpw (ltr k) (cnt x y d e k) from fun k => rfl)
    have HS4 := Hid.mk' (show txTo ⟨x, y, d, e⟩ 4 = monS ⟨x, y, d, e⟩ from rfl)
    have HS0 := Hid.mk' (show txTo ⟨x, y, d, e⟩ 0 = [] from rfl)
    obtain ⟨Res, hRes⟩ : ∃ R, monT ⟨x, y, d, e⟩ = R := ⟨_, rfl⟩
    rw [hRes]
    have HR1 := Hid.mk' (monT_one (m := ⟨x, y, d, e⟩) HOK.out)
    have HR2 := Hid.mk' (monT_is (m := ⟨x, y, d, e⟩) HOK.out)
    rw [hRes] at HR1 HR2
    clear hRes
    obtain ⟨tx, htx⟩ : ∃ f, txTo ⟨x, y, d, e⟩ = f := ⟨_, rfl⟩
    obtain ⟨mS, hmS⟩ : ∃ f, monS ⟨x, y, d, e⟩ = f := ⟨_, rfl⟩
    rw [htx] at HLEN HT HS4 HS0
    rw [hmS] at HS4 HR1 HR2
    clear htx hmS
    go_enter Tryz.func142, Tryz.ntmps142
    go_wp2_with fail
    refine (monOkI_of HOK.out _).mono ?_
    rintro r w1 ⟨rfl, hb⟩
    have hb1 := bel_next (bel_one w (.cells #[.int .i64 x, .int .i64 y, .int .i64 d, .int .i64 e] 78)) hb
    have HB1 := Hid.mk' hb1
    have c0 : w1.cell? ⟨w.heap.size, 0, none⟩ = some (.int .i64 x) := (hb.cell (p := ⟨w.heap.size, 0, none⟩) (by simp)).trans (by rw [World.cell?_alloc_at _ _ _ _ rfl]; rfl)
    have c1 : w1.cell? ⟨w.heap.size, 1, none⟩ = some (.int .i64 y) := (hb.cell (p := ⟨w.heap.size, 1, none⟩) (by simp)).trans (by rw [World.cell?_alloc_at _ _ _ _ rfl]; rfl)
    have c2 : w1.cell? ⟨w.heap.size, 2, none⟩ = some (.int .i64 d) := (hb.cell (p := ⟨w.heap.size, 2, none⟩) (by simp)).trans (by rw [World.cell?_alloc_at _ _ _ _ rfl]; rfl)
    have c3 : w1.cell? ⟨w.heap.size, 3, none⟩ = some (.int .i64 e) := (hb.cell (p := ⟨w.heap.size, 3, none⟩) (by simp)).trans (by rw [World.cell?_alloc_at _ _ _ _ rfl]; rfl)
    have hws : w.heap.size < w1.heap.size := Nat.lt_of_lt_of_le (by simp) hb.size
    clear hb hb1
    go_wp2_with fail
    refine (countsI x y d e _).mono ?_
    rintro r w2 ⟨rfl, hb2⟩
    have HF0 : Hid (Fac w1.heap.size w1 (tx 0) w2) := by rw [HS0.out]; exact ⟨bld_fresh hb2, Below.trans ((Below.refl _ w1).alloc (Nat.le_refl _) _) (hb2.mono (by simp))⟩
    clear hb2 c0 c1 c2 c3
    obtain ⟨B, hB⟩ : ∃ B, w1.heap.size = B := ⟨_, rfl⟩
    rw [hB] at HF0
    have hBw : B ≤ w1.heap.size := by omega
    have hwB : w.heap.size ≤ B := by omega
    simp only [hB]
    clear hB
    go_wp2
    go_loopw [11] (fun v wr => ∃ k : Nat, k ≤ 4 ∧ v = .int .i64 (k : Int) ∧ Hid (Fac B w1 (tx k) wr)) (fun v _ => 4 - (intOf v).toNat)
    case atStart => exact ⟨0, by omega, rfl, HF0⟩
    case round =>
      obtain ⟨k, hk, rfl, HF⟩ := hrel
      by_cases hk4 : k = 4
      · subst hk4
        rw [HS4.out] at HF
        have hl12 : mS.length ≤ 12 := by rw [← HS4.out]; exact HLEN.out 4
        go_wp2_with fail
        refine (bLen B B _ _ HF.out.1).mono ?_
        rw [Lib.byteCells_length]
        rintro r w9 ⟨rfl, hw9⟩
        obtain rfl := hw9.symm
        clear hw9
        by_cases h0 : mS = []
        · have hl0 : mS.length = 0 := by rw [h0]; rfl
          have hR := HR1.out h0
          have HR := Hid.mk' hR
          clear hR h0
          rw [hl0]
          go_wp2
          go_ret
          exact ⟨by rw [HR.out]; rfl, HB1.out.trans (HF.out.2.mono (by omega))⟩
        · have hl0 : ((mS.length : Int) == 0) = false := beq_eq_false_iff_ne.2 (fun h => h0 (List.length_eq_zero_iff.1 (by omega)))
          have hR := HR2.out h0
          have HR := Hid.mk' hR
          clear hR h0
          go_wp2_with fail
          refine (bString B B mS _ HF.out.1 (HF.out.size hBw)).mono ?_
          rintro r w8 ⟨rfl, hb8⟩
          go_wp2
          go_ret
          exact ⟨by rw [HR.out]; rfl, HB1.out.trans ((HF.out.2.trans hb8).mono (by omega))⟩
      · have hkl : (k : Int) < 4 := by omega
        have hlk : (tx k).length ≤ 12 := by have := HLEN.out k; omega
        have key : ∀ (c : UInt8) (n : Int), ltr k = c → cnt x y d e k = n → Hid (tx (k + 1) = tx k ++ fpw c n) := fun c n h1 h2 => by rw [HT.out, h1, h2]; exact Hid.mk' rfl
        rcases (show k = 0 ∨ k = 1 ∨ k = 2 ∨ k = 3 by omega) with rfl | rfl | rfl | rfl
        · have HK := key 120 x rfl rfl
          clear key
          by_cases h0 : x = 0
          · subst h0
            have hq : tx 1 = tx 0 := by rw [HK.out]; exact List.append_nil _
            have HQ := Hid.mk' hq
            clear hq
            go_wp2
            go_roundw
            case rel => exact ⟨1, by omega, by go_num, by rw [HQ.out]; exact HF⟩
            case measure => simp [intOf]
          · by_cases h1 : x = 1
            · subst h1
              go_wp2_with fail
              refine (HF.out.byte hBw (by omega) 120).mono ?_
              rintro r w3 ⟨rfl, hF3⟩
              have HF3 := Hid.mk' hF3
              clear hF3
              have hq : tx 1 = tx 0 ++ [120] := HK.out
              have HQ := Hid.mk' hq
              clear hq
              go_wp2
              go_roundw
              case rel => exact ⟨1, by omega, by go_num, by rw [HQ.out]; exact HF3⟩
              case measure => simp [intOf]
            · obtain ⟨n, rfl⟩ : ∃ n : Nat, x = (n : Int) := ⟨x.toNat, by omega⟩
              have hn0 : (0 : Int) < (n : Int) := by omega
              have hn1 : (1 : Int) < (n : Int) := by omega
              have hq : tx 1 = tx 0 ++ [120] ++ Lib.decDigits n := by rw [HK.out, fpw_more (by omega)]; simp
              have HQ := Hid.mk' hq
              clear hq
              obtain ⟨D, hD⟩ : ∃ D, Lib.decDigits n = D := ⟨_, rfl⟩
              have hl : D.length ≤ 2 := by rw [← hD]; exact dec_len2 (by omega)
              have hci := fun u => itoaSm n (by omega) u
              rw [hD] at HQ
              simp only [hD] at hci
              have HCI := Hid.mk' hci
              clear hci hD
              go_wp2_with fail
              refine (HF.out.byte hBw (by omega) 120).mono ?_
              rintro r w3 ⟨rfl, hF3⟩
              have HF3 := Hid.mk' hF3
              clear hF3
              go_wp2_with fail
              refine (HCI.out _).mono ?_
              rintro r w4 ⟨rfl, hw4⟩
              obtain rfl := hw4.symm
              clear hw4
              go_wp2_with fail
              refine (HF3.out.str hBw (by simp; omega) D (by omega)).mono ?_
              rintro r w5 ⟨⟨v5, rfl⟩, hF5⟩
              have HF5 := Hid.mk' hF5
              clear hF5
              go_wp2
              go_roundw
              case rel => exact ⟨1, by omega, by go_num, by rw [HQ.out]; exact HF5⟩
              case measure => simp [intOf]
        · have HK := key 121 y rfl rfl
          clear key
          by_cases h0 : y = 0
          · subst h0
            have hq : tx 2 = tx 1 := by rw [HK.out]; exact List.append_nil _
            have HQ := Hid.mk' hq
            clear hq
            go_wp2
            go_roundw
            case rel => exact ⟨2, by omega, by go_num, by rw [HQ.out]; exact HF⟩
            case measure => simp [intOf]
          · by_cases h1 : y = 1
            · subst h1
              go_wp2_with fail
              refine (HF.out.byte hBw (by omega) 121).mono ?_
              rintro r w3 ⟨rfl, hF3⟩
              have HF3 := Hid.mk' hF3
              clear hF3
              have hq : tx 2 = tx 1 ++ [121] := HK.out
              have HQ := Hid.mk' hq
              clear hq
              go_wp2
              go_roundw
              case rel => exact ⟨2, by omega, by go_num, by rw [HQ.out]; exact HF3⟩
              case measure => simp [intOf]
            · obtain ⟨n, rfl⟩ : ∃ n : Nat, y = (n : Int) := ⟨y.toNat, by omega⟩
              have hn0 : (0 : Int) < (n : Int) := by omega
              have hn1 : (1 : Int) < (n : Int) := by omega
              have hq : tx 2 = tx 1 ++ [121] ++ Lib.decDigits n := by rw [HK.out, fpw_more (by omega)]; simp
              have HQ := Hid.mk' hq
              clear hq
              obtain ⟨D, hD⟩ : ∃ D, Lib.decDigits n = D := ⟨_, rfl⟩
              have hl : D.length ≤ 2 := by rw [← hD]; exact dec_len2 (by omega)
              have hci := fun u => itoaSm n (by omega) u
              rw [hD] at HQ
              simp only [hD] at hci
              have HCI := Hid.mk' hci
              clear hci hD
              go_wp2_with fail
              refine (HF.out.byte hBw (by omega) 121).mono ?_
              rintro r w3 ⟨rfl, hF3⟩
              have HF3 := Hid.mk' hF3
              clear hF3
              go_wp2_with fail
              refine (HCI.out _).mono ?_
              rintro r w4 ⟨rfl, hw4⟩
              obtain rfl := hw4.symm
              clear hw4
              go_wp2_with fail
              refine (HF3.out.str hBw (by simp; omega) D (by omega)).mono ?_
              rintro r w5 ⟨⟨v5, rfl⟩, hF5⟩
              have HF5 := Hid.mk' hF5
              clear hF5
              go_wp2
              go_roundw
              case rel => exact ⟨2, by omega, by go_num, by rw [HQ.out]; exact HF5⟩
              case measure => simp [intOf]
        · have HK := key 100 d rfl rfl
          clear key
          by_cases h0 : d = 0
          · subst h0
            have hq : tx 3 = tx 2 := by rw [HK.out]; exact List.append_nil _
            have HQ := Hid.mk' hq
            clear hq
            go_wp2
            go_roundw
            case rel => exact ⟨3, by omega, by go_num, by rw [HQ.out]; exact HF⟩
            case measure => simp [intOf]
          · by_cases h1 : d = 1
            · subst h1
              go_wp2_with fail
              refine (HF.out.byte hBw (by omega) 100).mono ?_
              rintro r w3 ⟨rfl, hF3⟩
              have HF3 := Hid.mk' hF3
              clear hF3
              have hq : tx 3 = tx 2 ++ [100] := HK.out
              have HQ := Hid.mk' hq
              clear hq
              go_wp2
              go_roundw
              case rel => exact ⟨3, by omega, by go_num, by rw [HQ.out]; exact HF3⟩
              case measure => simp [intOf]
            · obtain ⟨n, rfl⟩ : ∃ n : Nat, d = (n : Int) := ⟨d.toNat, by omega⟩
              have hn0 : (0 : Int) < (n : Int) := by omega
              have hn1 : (1 : Int) < (n : Int) := by omega
              have hq : tx 3 = tx 2 ++ [100] ++ Lib.decDigits n := by rw [HK.out, fpw_more (by omega)]; simp
              have HQ := Hid.mk' hq
              clear hq
              obtain ⟨D, hD⟩ : ∃ D, Lib.decDigits n = D := ⟨_, rfl⟩
              have hl : D.length ≤ 2 := by rw [← hD]; exact dec_len2 (by omega)
              have hci := fun u => itoaSm n (by omega) u
              rw [hD] at HQ
              simp only [hD] at hci
              have HCI := Hid.mk' hci
              clear hci hD
              go_wp2_with fail
              refine (HF.out.byte hBw (by omega) 100).mono ?_
              rintro r w3 ⟨rfl, hF3⟩
              have HF3 := Hid.mk' hF3
              clear hF3
              go_wp2_with fail
              refine (HCI.out _).mono ?_
              rintro r w4 ⟨rfl, hw4⟩
              obtain rfl := hw4.symm
              clear hw4
              go_wp2_with fail
              refine (HF3.out.str hBw (by simp; omega) D (by omega)).mono ?_
              rintro r w5 ⟨⟨v5, rfl⟩, hF5⟩
              have HF5 := Hid.mk' hF5
              clear hF5
              go_wp2
              go_roundw
              case rel => exact ⟨3, by omega, by go_num, by rw [HQ.out]; exact HF5⟩
              case measure => simp [intOf]
        · have HK := key 101 e rfl rfl
          clear key
          by_cases h0 : e = 0
          · subst h0
            have hq : tx 4 = tx 3 := by rw [HK.out]; exact List.append_nil _
            have HQ := Hid.mk' hq
            clear hq
            go_wp2
            go_roundw
            case rel => exact ⟨4, by omega, by go_num, by rw [HQ.out]; exact HF⟩
            case measure => simp [intOf]
          · by_cases h1 : e = 1
            · subst h1
              go_wp2_with fail
              refine (HF.out.byte hBw (by omega) 101).mono ?_
              rintro r w3 ⟨rfl, hF3⟩
              have HF3 := Hid.mk' hF3
              clear hF3
              have hq : tx 4 = tx 3 ++ [101] := HK.out
              have HQ := Hid.mk' hq
              clear hq
              go_wp2
              go_roundw
              case rel => exact ⟨4, by omega, by go_num, by rw [HQ.out]; exact HF3⟩
              case measure => simp [intOf]
            · obtain ⟨n, rfl⟩ : ∃ n : Nat, e = (n : Int) := ⟨e.toNat, by omega⟩
              have hn0 : (0 : Int) < (n : Int) := by omega
              have hn1 : (1 : Int) < (n : Int) := by omega
              have hq : tx 4 = tx 3 ++ [101] ++ Lib.decDigits n := by rw [HK.out, fpw_more (by omega)]; simp
              have HQ := Hid.mk' hq
              clear hq
              obtain ⟨D, hD⟩ : ∃ D, Lib.decDigits n = D := ⟨_, rfl⟩
              have hl : D.length ≤ 2 := by rw [← hD]; exact dec_len2 (by omega)
              have hci := fun u => itoaSm n (by omega) u
              rw [hD] at HQ
              simp only [hD] at hci
              have HCI := Hid.mk' hci
              clear hci hD
              go_wp2_with fail
              refine (HF.out.byte hBw (by omega) 101).mono ?_
              rintro r w3 ⟨rfl, hF3⟩
              have HF3 := Hid.mk' hF3
              clear hF3
              go_wp2_with fail
              refine (HCI.out _).mono ?_
              rintro r w4 ⟨rfl, hw4⟩
              obtain rfl := hw4.symm
              clear hw4
              go_wp2_with fail
              refine (HF3.out.str hBw (by simp; omega) D (by omega)).mono ?_
              rintro r w5 ⟨⟨v5, rfl⟩, hF5⟩
              have HF5 := Hid.mk' hF5
              clear hF5
              go_wp2
              go_roundw
              case rel => exact ⟨4, by omega, by go_num, by rw [HQ.out]; exact HF5⟩
              case measure => simp [intOf]
end Go.Proofs.YtoglomfejgpoeaaGreatDoor
