/-
  The walk of FnMapTurn: whatever the code, it comes out true, and nothing that was there is turned.
-/
import Derived.Test.YtfcmkkagjkkgjaaGbc
import Derived.Test.YtfcmkkagjkkgjaaRepN3
namespace Go.Proofs.Ytfcmkkagjkkgjaa
open Go.RowKit
set_option linter.unusedVariables false
set_option maxRecDepth 100000 in
set_option maxHeartbeats 8000000 in
theorem walk_FnMapTurn (w : World) (a0 : Option Addr) (len0 cap0 : Nat) (s0 : Src w a0 len0 cap0) (a1 : Option Addr) (len1 cap1 : Nat) (s1 : Src w a1 len1 cap1) :
    Calls Try.prog 6 #[.slice a0 len0 cap0, .slice a1 len1 cap1] w fun e w' => e = .returned (.bool true) ∧ Below w.heap.size w w' := by
  by_cases c0 : (1048576 : Int) < (len0 : Int)
  · go_enter Try.func6, Try.ntmps6
    go_wp2
    go_ret
    exact ⟨rfl, Below.refl _ _⟩
  by_cases c1 : (1048576 : Int) < (len1 : Int)
  · go_enter Try.func6, Try.ntmps6
    go_wp2
    go_ret
    exact ⟨rfl, Below.refl _ _⟩
  go_enter Try.func6, Try.ntmps6
  go_wp2_with fail
  refine (drawMapTurn w a0 len0 cap0 s0).mono ?_
  rintro e wd ⟨da, dca, A, rfl, hA, hlA, hbd⟩
  have HA0 := Hid.mk' hA
  have Z0 := Hid.mk' hbd
  have S1 := Hid.mk' (s1.below hbd)
  clear hA hbd s0 s1
  go_wp2_with fail
  refine (drawMapTurn wd a1 len1 cap1 S1.out).mono ?_
  rintro e we ⟨db, dcb, B, rfl, hB, hlB, hbe⟩
  have HB0 := Hid.mk' hB
  clear hB S1
  have H1 := Hid.mk' (HA0.out.below hbe)
  clear HA0
  have Z2 := Hid.mk' (bel_next Z0.out hbe)
  clear Z0
  clear hbe
  cases oA : okL A
  · have e1 := tu_bad oA
    go_wp2_with fail
    refine (tuI_L H1.out).mono ?_
    rw [e1]
    rintro e w3 ⟨a4, c5, rfl, b6, r7⟩
    have H8 := Hid.mk' (H1.out.below b6)
    clear H1
    have H9 := Hid.mk' (HB0.out.below b6)
    clear HB0
    have Z10 := Hid.mk' (bel_next Z2.out b6)
    clear Z2
    have H11 : Hid (RL w3 a4 c5 []) := r7
    clear r7
    clear b6
    go_wp2_with fail
    refine (tuS_L H8.out).mono ?_
    rw [e1]
    rintro e w12 ⟨a13, c14, rfl, b15, r16⟩
    have H17 := Hid.mk' (H8.out.below b15)
    clear H8
    have H18 := Hid.mk' (H9.out.below b15)
    clear H9
    have H19 := Hid.mk' (H11.out.below b15)
    clear H11
    have Z20 := Hid.mk' (bel_next Z10.out b15)
    clear Z10
    have H21 : Hid (RL w12 a13 c14 []) := r16
    clear r16
    clear b15
    go_wp2_with fail
    refine (he_L H19.out H21.out).mono ?_
    rw [sq_same]
    rintro e w22 ⟨rfl, b23⟩
    have H24 := Hid.mk' (H17.out.below b23)
    clear H17
    have H25 := Hid.mk' (H18.out.below b23)
    clear H18
    have H26 := Hid.mk' (H19.out.below b23)
    clear H19
    have H27 := Hid.mk' (H21.out.below b23)
    clear H21
    have Z28 := Hid.mk' (bel_next Z20.out b23)
    clear Z20
    clear b23
    go_wp2_with fail
    refine (okS_L H24.out).mono ?_
    rw [oA]
    rintro e w29 ⟨rfl, b30⟩
    have H31 := Hid.mk' (H24.out.below b30)
    clear H24
    have H32 := Hid.mk' (H25.out.below b30)
    clear H25
    have H33 := Hid.mk' (H26.out.below b30)
    clear H26
    have H34 := Hid.mk' (H27.out.below b30)
    clear H27
    have Z35 := Hid.mk' (bel_next Z28.out b30)
    clear Z28
    clear b30
    go_wp2_with fail
    refine (heOk_L _ ).mono ?_
    rintro e w36 ⟨rfl, b37⟩
    have H38 := Hid.mk' (H31.out.below b37)
    clear H31
    have H39 := Hid.mk' (H32.out.below b37)
    clear H32
    have H40 := Hid.mk' (H33.out.below b37)
    clear H33
    have H41 := Hid.mk' (H34.out.below b37)
    clear H34
    have Z42 := Hid.mk' (bel_next Z35.out b37)
    clear Z35
    clear b37
    go_wp2
    go_ret
    exact ⟨rfl, Z42.out⟩
  · go_wp2_with fail
    refine (tuI_L H1.out).mono ?_
    rintro e w43 ⟨a44, c45, rfl, b46, r47⟩
    have H48 := Hid.mk' (H1.out.below b46)
    clear H1
    have H49 := Hid.mk' (HB0.out.below b46)
    clear HB0
    have Z50 := Hid.mk' (bel_next Z2.out b46)
    clear Z2
    have H51 : Hid (RL w43 a44 c45 (tuV A)) := r47
    clear r47
    clear b46
    go_wp2_with fail
    refine (tuS_L H48.out).mono ?_
    rintro e w52 ⟨a53, c54, rfl, b55, r56⟩
    have H57 := Hid.mk' (H48.out.below b55)
    clear H48
    have H58 := Hid.mk' (H49.out.below b55)
    clear H49
    have H59 := Hid.mk' (H51.out.below b55)
    clear H51
    have Z60 := Hid.mk' (bel_next Z50.out b55)
    clear Z50
    have H61 : Hid (RL w52 a53 c54 (tuV A)) := r56
    clear r56
    clear b55
    go_wp2_with fail
    refine (he_L H59.out H61.out).mono ?_
    rw [sq_same]
    rintro e w62 ⟨rfl, b63⟩
    have H64 := Hid.mk' (H57.out.below b63)
    clear H57
    have H65 := Hid.mk' (H58.out.below b63)
    clear H58
    have H66 := Hid.mk' (H59.out.below b63)
    clear H59
    have H67 := Hid.mk' (H61.out.below b63)
    clear H61
    have Z68 := Hid.mk' (bel_next Z60.out b63)
    clear Z60
    clear b63
    go_wp2_with fail
    refine (okS_L H64.out).mono ?_
    rw [oA]
    rintro e w69 ⟨rfl, b70⟩
    have H71 := Hid.mk' (H64.out.below b70)
    clear H64
    have H72 := Hid.mk' (H65.out.below b70)
    clear H65
    have H73 := Hid.mk' (H66.out.below b70)
    clear H66
    have H74 := Hid.mk' (H67.out.below b70)
    clear H67
    have Z75 := Hid.mk' (bel_next Z68.out b70)
    clear Z68
    clear b70
    have TE := Hid.mk' (tu_even oA)
    go_wp2
    go_loopw [8, 9] (fun ev v wr => ∃ i : Nat, i ≤ A.length ∧ v = .int .i64 (i : Int) ∧ ev = .bool (evN (lf A) i) ∧ Below w.heap.size w wr ∧ RL wr da dca A ∧ RL wr db dcb B ∧ RL wr a44 c45 (tuV A)) (fun _ v _ => A.length - (intOf v).toNat)
    case atStart => exact ⟨0, Nat.zero_le _, rfl, rfl, Z75.out, H71.out, H72.out, H73.out⟩
    case round =>
      obtain ⟨i, hi, rfl, rfl, hBw, kA, kB, kX⟩ := hrel
      by_cases hlt : i < A.length
      · have hil : (i : Int) < (A.length : Int) := by omega
        have KA := Hid.mk' kA
        have KB := Hid.mk' kB
        have KX := Hid.mk' kX
        have KW := Hid.mk' hBw
        rcases kA.2.2 with h0 | ⟨pb, off, hpe, hblt, hcl⟩
        · omega
        obtain ⟨g0, g1, g2, g3, g4⟩ := hcl i hlt
        subst hpe
        clear kB kX hBw hcl
        have hstep : evN (lf A) (i + 1) = (evN (lf A) i && decide ((lf A i).m.deg % 2 = 0)) := rfl
        have HST := Hid.mk' hstep
        clear hstep
        cases hev : evN (lf A) i
        · go_wp2
          go_roundw
          case rel => exact ⟨i + 1, by omega, by go_num, by rw [HST.out, hev]; rfl, KW.out, KA.out, KB.out, KX.out⟩
          case measure => simp [intOf]; omega
        · go_wp2_with fail
          refine (monDegI _ _ _ _ _).mono ?_
          rintro e w5 ⟨rfl, b5⟩
          have Z5 := Hid.mk' b5
          clear b5 g0 g1 g2 g3 g4 kA
          have hdd : (M.deg ⟨(lf A i).m.x, (lf A i).m.y, (lf A i).m.d, (lf A i).m.e⟩).tmod 2 = (lf A i).m.deg % 2 := by
            have h0 : (0 : Int) ≤ (lf A i).m.deg := by unfold M.deg; split; (rename_i ho; have := M.ok_iff.1 ho; omega); omega
            exact Int.tmod_eq_emod_of_nonneg h0
          obtain ⟨dv, hdv⟩ : ∃ z, M.deg ⟨(lf A i).m.x, (lf A i).m.y, (lf A i).m.d, (lf A i).m.e⟩ = z := ⟨_, rfl⟩
          rw [hdv] at hdd ⊢
          have HD := Hid.mk' hdd
          have HE := Hid.mk' hdv
          clear hdd hdv
          go_wp2
          go_roundw
          case rel => exact ⟨i + 1, by omega, by go_num, by rw [HST.out, hev, show (lf A i).m.deg = dv from HE.out, ← HD.out]; rfl, bel_next KW.out Z5.out, RL.below KA.out Z5.out, RL.below KB.out Z5.out, RL.below KX.out Z5.out⟩
          case measure => simp [intOf]; omega
      · have hni : ¬ (i : Int) < (A.length : Int) := by omega
        have hie : i = A.length := by omega
        subst hie
        rw [← TE.out]
        have hbb : (sq (tuV A) A == sq (tuV A) A) = true := by simp
        have H276 := Hid.mk' kA
        have H277 := Hid.mk' kB
        have H278 := Hid.mk' kX
        have Z279 := Hid.mk' hBw
        clear kA kB kX hBw
        have e9 := tu_tu oA
        rcases wmV_if A B with h1 | ⟨AB, h1⟩
        · go_wp2_with fail
          refine (wmI_L H276.out H277.out).mono ?_
          rw [h1]
          rintro e w280 ⟨a281, c282, rfl, b283, r284⟩
          have H285 := Hid.mk' (H276.out.below b283)
          clear H276
          have H286 := Hid.mk' (H277.out.below b283)
          clear H277
          have H287 := Hid.mk' (H278.out.below b283)
          clear H278
          have Z288 := Hid.mk' (bel_next Z279.out b283)
          clear Z279
          have H289 : Hid (RL w280 a281 c282 []) := r284
          clear r284
          clear b283
          go_wp2_with fail
          refine (tuI_L H286.out).mono ?_
          rintro e w290 ⟨a291, c292, rfl, b293, r294⟩
          have H295 := Hid.mk' (H285.out.below b293)
          clear H285
          have H296 := Hid.mk' (H286.out.below b293)
          clear H286
          have H297 := Hid.mk' (H287.out.below b293)
          clear H287
          have H298 := Hid.mk' (H289.out.below b293)
          clear H289
          have Z299 := Hid.mk' (bel_next Z288.out b293)
          clear Z288
          have H300 : Hid (RL w290 a291 c292 (tuV B)) := r294
          clear r294
          clear b293
          obtain ⟨VV, o2, h2⟩ : ∃ L o, wmV (tuV A) (tuV B) = (L, o) := ⟨_, _, rfl⟩
          go_wp2_with fail
          refine (wmI_L H297.out H300.out).mono ?_
          rw [h2]
          rintro e w301 ⟨a302, c303, rfl, b304, r305⟩
          have H306 := Hid.mk' (H295.out.below b304)
          clear H295
          have H307 := Hid.mk' (H296.out.below b304)
          clear H296
          have H308 := Hid.mk' (H297.out.below b304)
          clear H297
          have H309 := Hid.mk' (H298.out.below b304)
          clear H298
          have H310 := Hid.mk' (H300.out.below b304)
          clear H300
          have Z311 := Hid.mk' (bel_next Z299.out b304)
          clear Z299
          have H312 : Hid (RL w301 a302 c303 VV) := r305
          clear r305
          clear b304
          go_wp2_with fail
          refine (tuI_L H308.out).mono ?_
          rw [e9]
          rintro e w313 ⟨a314, c315, rfl, b316, r317⟩
          have H318 := Hid.mk' (H306.out.below b316)
          clear H306
          have H319 := Hid.mk' (H307.out.below b316)
          clear H307
          have H320 := Hid.mk' (H308.out.below b316)
          clear H308
          have H321 := Hid.mk' (H309.out.below b316)
          clear H309
          have H322 := Hid.mk' (H310.out.below b316)
          clear H310
          have H323 := Hid.mk' (H312.out.below b316)
          clear H312
          have Z324 := Hid.mk' (bel_next Z311.out b316)
          clear Z311
          have H325 : Hid (RL w313 a314 c315 A) := r317
          clear r317
          clear b316
          go_wp2_with fail
          refine (he_L H325.out H318.out).mono ?_
          rw [sq_same]
          rintro e w326 ⟨rfl, b327⟩
          have H328 := Hid.mk' (H318.out.below b327)
          clear H318
          have H329 := Hid.mk' (H319.out.below b327)
          clear H319
          have H330 := Hid.mk' (H320.out.below b327)
          clear H320
          have H331 := Hid.mk' (H321.out.below b327)
          clear H321
          have H332 := Hid.mk' (H322.out.below b327)
          clear H322
          have H333 := Hid.mk' (H323.out.below b327)
          clear H323
          have H334 := Hid.mk' (H325.out.below b327)
          clear H325
          have Z335 := Hid.mk' (bel_next Z324.out b327)
          clear Z324
          clear b327
          go_wp2_with fail
          refine (he_L H330.out H328.out).mono ?_
          rintro e w336 ⟨rfl, b337⟩
          have H338 := Hid.mk' (H328.out.below b337)
          clear H328
          have H339 := Hid.mk' (H329.out.below b337)
          clear H329
          have H340 := Hid.mk' (H330.out.below b337)
          clear H330
          have H341 := Hid.mk' (H331.out.below b337)
          clear H331
          have H342 := Hid.mk' (H332.out.below b337)
          clear H332
          have H343 := Hid.mk' (H333.out.below b337)
          clear H333
          have H344 := Hid.mk' (H334.out.below b337)
          clear H334
          have Z345 := Hid.mk' (bel_next Z335.out b337)
          clear Z335
          clear b337
          go_wp2_with fail
          refine (heOk_L _ ).mono ?_
          rintro e w346 ⟨rfl, b347⟩
          have H348 := Hid.mk' (H338.out.below b347)
          clear H338
          have H349 := Hid.mk' (H339.out.below b347)
          clear H339
          have H350 := Hid.mk' (H340.out.below b347)
          clear H340
          have H351 := Hid.mk' (H341.out.below b347)
          clear H341
          have H352 := Hid.mk' (H342.out.below b347)
          clear H342
          have H353 := Hid.mk' (H343.out.below b347)
          clear H343
          have H354 := Hid.mk' (H344.out.below b347)
          clear H344
          have Z355 := Hid.mk' (bel_next Z345.out b347)
          clear Z345
          clear b347
          go_wp2
          go_ret
          exact ⟨rfl, Z355.out⟩
        · go_wp2_with fail
          refine (wmI_L H276.out H277.out).mono ?_
          rw [h1]
          rintro e w356 ⟨a357, c358, rfl, b359, r360⟩
          have H361 := Hid.mk' (H276.out.below b359)
          clear H276
          have H362 := Hid.mk' (H277.out.below b359)
          clear H277
          have H363 := Hid.mk' (H278.out.below b359)
          clear H278
          have Z364 := Hid.mk' (bel_next Z279.out b359)
          clear Z279
          have H365 : Hid (RL w356 a357 c358 AB) := r360
          clear r360
          clear b359
          have e8 := wm_tu h1
          go_wp2_with fail
          refine (tuI_L H362.out).mono ?_
          rintro e w366 ⟨a367, c368, rfl, b369, r370⟩
          have H371 := Hid.mk' (H361.out.below b369)
          clear H361
          have H372 := Hid.mk' (H362.out.below b369)
          clear H362
          have H373 := Hid.mk' (H363.out.below b369)
          clear H363
          have H374 := Hid.mk' (H365.out.below b369)
          clear H365
          have Z375 := Hid.mk' (bel_next Z364.out b369)
          clear Z364
          have H376 : Hid (RL w366 a367 c368 (tuV B)) := r370
          clear r370
          clear b369
          go_wp2_with fail
          refine (wmI_L H373.out H376.out).mono ?_
          rw [e8]
          rintro e w377 ⟨a378, c379, rfl, b380, r381⟩
          have H382 := Hid.mk' (H371.out.below b380)
          clear H371
          have H383 := Hid.mk' (H372.out.below b380)
          clear H372
          have H384 := Hid.mk' (H373.out.below b380)
          clear H373
          have H385 := Hid.mk' (H374.out.below b380)
          clear H374
          have H386 := Hid.mk' (H376.out.below b380)
          clear H376
          have Z387 := Hid.mk' (bel_next Z375.out b380)
          clear Z375
          have H388 : Hid (RL w377 a378 c379 (tuV AB)) := r381
          clear r381
          clear b380
          go_wp2_with fail
          refine (tuI_L H384.out).mono ?_
          rw [e9]
          rintro e w389 ⟨a390, c391, rfl, b392, r393⟩
          have H394 := Hid.mk' (H382.out.below b392)
          clear H382
          have H395 := Hid.mk' (H383.out.below b392)
          clear H383
          have H396 := Hid.mk' (H384.out.below b392)
          clear H384
          have H397 := Hid.mk' (H385.out.below b392)
          clear H385
          have H398 := Hid.mk' (H386.out.below b392)
          clear H386
          have H399 := Hid.mk' (H388.out.below b392)
          clear H388
          have Z400 := Hid.mk' (bel_next Z387.out b392)
          clear Z387
          have H401 : Hid (RL w389 a390 c391 A) := r393
          clear r393
          clear b392
          go_wp2_with fail
          refine (he_L H401.out H394.out).mono ?_
          rw [sq_same]
          rintro e w402 ⟨rfl, b403⟩
          have H404 := Hid.mk' (H394.out.below b403)
          clear H394
          have H405 := Hid.mk' (H395.out.below b403)
          clear H395
          have H406 := Hid.mk' (H396.out.below b403)
          clear H396
          have H407 := Hid.mk' (H397.out.below b403)
          clear H397
          have H408 := Hid.mk' (H398.out.below b403)
          clear H398
          have H409 := Hid.mk' (H399.out.below b403)
          clear H399
          have H410 := Hid.mk' (H401.out.below b403)
          clear H401
          have Z411 := Hid.mk' (bel_next Z400.out b403)
          clear Z400
          clear b403
          go_wp2_with fail
          refine (he_L H406.out H404.out).mono ?_
          rintro e w412 ⟨rfl, b413⟩
          have H414 := Hid.mk' (H404.out.below b413)
          clear H404
          have H415 := Hid.mk' (H405.out.below b413)
          clear H405
          have H416 := Hid.mk' (H406.out.below b413)
          clear H406
          have H417 := Hid.mk' (H407.out.below b413)
          clear H407
          have H418 := Hid.mk' (H408.out.below b413)
          clear H408
          have H419 := Hid.mk' (H409.out.below b413)
          clear H409
          have H420 := Hid.mk' (H410.out.below b413)
          clear H410
          have Z421 := Hid.mk' (bel_next Z411.out b413)
          clear Z411
          clear b413
          go_wp2_with fail
          refine (tuI_L H417.out).mono ?_
          rintro e w422 ⟨a423, c424, rfl, b425, r426⟩
          have H427 := Hid.mk' (H414.out.below b425)
          clear H414
          have H428 := Hid.mk' (H415.out.below b425)
          clear H415
          have H429 := Hid.mk' (H416.out.below b425)
          clear H416
          have H430 := Hid.mk' (H417.out.below b425)
          clear H417
          have H431 := Hid.mk' (H418.out.below b425)
          clear H418
          have H432 := Hid.mk' (H419.out.below b425)
          clear H419
          have H433 := Hid.mk' (H420.out.below b425)
          clear H420
          have Z434 := Hid.mk' (bel_next Z421.out b425)
          clear Z421
          have H435 : Hid (RL w422 a423 c424 (tuV AB)) := r426
          clear r426
          clear b425
          go_wp2_with fail
          refine (he_L H435.out H432.out).mono ?_
          rw [sq_same]
          rintro e w436 ⟨rfl, b437⟩
          have H438 := Hid.mk' (H427.out.below b437)
          clear H427
          have H439 := Hid.mk' (H428.out.below b437)
          clear H428
          have H440 := Hid.mk' (H429.out.below b437)
          clear H429
          have H441 := Hid.mk' (H430.out.below b437)
          clear H430
          have H442 := Hid.mk' (H431.out.below b437)
          clear H431
          have H443 := Hid.mk' (H432.out.below b437)
          clear H432
          have H444 := Hid.mk' (H433.out.below b437)
          clear H433
          have H445 := Hid.mk' (H435.out.below b437)
          clear H435
          have Z446 := Hid.mk' (bel_next Z434.out b437)
          clear Z434
          clear b437
          go_wp2_with fail
          refine (heOk_L _ ).mono ?_
          rintro e w447 ⟨rfl, b448⟩
          have H449 := Hid.mk' (H438.out.below b448)
          clear H438
          have H450 := Hid.mk' (H439.out.below b448)
          clear H439
          have H451 := Hid.mk' (H440.out.below b448)
          clear H440
          have H452 := Hid.mk' (H441.out.below b448)
          clear H441
          have H453 := Hid.mk' (H442.out.below b448)
          clear H442
          have H454 := Hid.mk' (H443.out.below b448)
          clear H443
          have H455 := Hid.mk' (H444.out.below b448)
          clear H444
          have H456 := Hid.mk' (H445.out.below b448)
          clear H445
          have Z457 := Hid.mk' (bel_next Z446.out b448)
          clear Z446
          clear b448
          go_wp2
          go_ret
          exact ⟨rfl, Z457.out⟩
end Go.Proofs.Ytfcmkkagjkkgjaa
