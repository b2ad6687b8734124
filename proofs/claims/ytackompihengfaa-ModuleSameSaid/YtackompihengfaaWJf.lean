/-
  module.sameFuncs, sameStore, Same over what their callees answer.
-/
import Derived.Test.YtackompihengfaaWJe
import Derived.Deep.RegionWith
import Derived.Test.YtackompihengfaaWJf0
namespace Go.Proofs.Ytackompihengfaa
open Go.RowKit Go.PlainAid
set_option linter.unusedVariables false
set_option linter.unusedSimpArgs false
set_option maxHeartbeats 4000000 in
set_option maxRecDepth 100000 in
theorem moduleSame0 (gx : Nat) (tabx startx : Int) (xA0 : Option Addr) (xn0 xc0 : Nat) (xA1 : Option Addr) (xn1 xc1 : Nat) (xA2 : Option Addr) (xn2 xc2 : Nat) (xA4 : Option Addr) (xn4 xc4 : Nat) (xA5 : Option Addr) (xn5 xc5 : Nat) (xA6 : Option Addr) (xn6 xc6 : Nat) (xA8 : Option Addr) (xn8 xc8 : Nat) (xA9 : Option Addr) (xn9 xc9 : Nat) (gy : Nat) (taby starty : Int) (yA0 : Option Addr) (yn0 yc0 : Nat) (yA1 : Option Addr) (yn1 yc1 : Nat) (yA2 : Option Addr) (yn2 yc2 : Nat) (yA4 : Option Addr) (yn4 yc4 : Nat) (yA5 : Option Addr) (yn5 yc5 : Nat) (yA6 : Option Addr) (yn6 yc6 : Nat) (yA8 : Option Addr) (yn8 yc8 : Nat) (yA9 : Option Addr) (yn9 yc9 : Nat) (r0 r1 r2 : Bool) (w : World) (hx : Blk w gx 73 #[.slice xA0 xn0 xc0, .slice xA1 xn1 xc1, .slice xA2 xn2 xc2, .int .i64 tabx, .slice xA4 xn4 xc4, .slice xA5 xn5 xc5, .slice xA6 xn6 xc6, .int .i64 startx, .slice xA8 xn8 xc8, .slice xA9 xn9 xc9]) (hy : Blk w gy 73 #[.slice yA0 yn0 yc0, .slice yA1 yn1 yc1, .slice yA2 yn2 yc2, .int .i64 taby, .slice yA4 yn4 yc4, .slice yA5 yn5 yc5, .slice yA6 yn6 yc6, .int .i64 starty, .slice yA8 yn8 yc8, .slice yA9 yn9 yc9])
    (e0 : ∀ W, Below w.heap.size w W → Calls Try.prog 35 #[.pointer (some ⟨gx, 0, none⟩), .pointer (some ⟨gy, 0, none⟩)] W fun e w' => e = .returned (.bool r0) ∧ Below W.heap.size W w')
    (e1 : ∀ W, Below w.heap.size w W → Calls Try.prog 36 #[.pointer (some ⟨gx, 0, none⟩), .pointer (some ⟨gy, 0, none⟩)] W fun e w' => e = .returned (.bool r1) ∧ Below W.heap.size W w')
    (e2 : ∀ W, Below w.heap.size w W → Calls Try.prog 37 #[.slice xA6 xn6 xc6, .slice yA6 yn6 yc6] W fun e w' => e = .returned (.bool r2) ∧ Below W.heap.size W w') :
    Calls Try.prog 21 #[.pointer (some ⟨gx, 0, none⟩), .pointer (some ⟨gy, 0, none⟩)] w fun e w' => e = .returned (.bool (r0 && r1 && r2 && decide (startx = starty))) ∧ Below w.heap.size w w' := by
  have E0 := Lib.hid e0
  have E1 := Lib.hid e1
  have E2 := Lib.hid e2
  have HX := Lib.hid hx
  have HY := Lib.hid hy
  have HB0 : Hid (Below w.heap.size w w) := Lib.hid (Below.refl _ _)
  clear e0 e1 e2 hx hy
  have HD : Hid (Below w.heap.size w w.drew) := Lib.hid ((Below.refl _ _).drew)
  cases r0 with
  | false =>
    simp only [Bool.false_and]
    go_enter Try.func21, Try.ntmps21
    go_wp2_with fail
    refine wp_region_held_drew (S := (fun W => W.cell? ⟨gx, 6, none⟩ = some (.slice xA6 xn6 xc6) ∧ W.cell? ⟨gy, 6, none⟩ = some (.slice yA6 yn6 yc6) ∧ W.cell? ⟨gx, 7, none⟩ = some (.int .i64 startx) ∧ W.cell? ⟨gy, 7, none⟩ = some (.int .i64 starty))) (by kernel_rfl) ⟨HX.out.cell 6, HY.out.cell 6, HX.out.cell 7, HY.out.cell 7⟩ (fun hHeld => ?_)
    refine wpAnyH_take (i := 0) (oi := ?oi_380) (v := ?_) ?hi_380 (by kernel_rfl) ?hf_380 (by kernel_rfl) ?hQ_380 ?hy_380 (by assumption) ?_
    case hi_380 => simp only [List.getElem?_toArray, List.getElem?_cons_zero, List.getElem?_cons_succ]; try rfl
    case hf_380 => kernel_rfl
    case hQ_380 => exact fun _ _ _ h => h
    case hy_380 =>
      refine Or.inl ⟨by rfl, ?_⟩
      intro W hSw
      obtain ⟨q6x, q6y, q7x, q7y⟩ := hSw
      go_simp
      try with_reducible rfl
    try simp only [Act.put, List.setIfInBounds_toArray, List.set_cons_zero, List.set_cons_succ]
    refine wpAnyH_take (i := 1) (oi := ?oi_381) (v := ?_) ?hi_381 (by kernel_rfl) ?hf_381 (by kernel_rfl) ?hQ_381 ?hy_381 (by assumption) ?_
    case hi_381 => simp only [List.getElem?_toArray, List.getElem?_cons_zero, List.getElem?_cons_succ]; try rfl
    case hf_381 => kernel_rfl
    case hQ_381 => exact fun _ _ _ h => h
    case hy_381 =>
      refine Or.inl ⟨by rfl, ?_⟩
      intro W hSw
      obtain ⟨q6x, q6y, q7x, q7y⟩ := hSw
      go_simp
      try with_reducible rfl
    try simp only [Act.put, List.setIfInBounds_toArray, List.set_cons_zero, List.set_cons_succ]
    refine wpAnyH_ready (rs := [2]) (by kernel_rfl) (by simp) ?_
    refine AllReadyH.cons (o := ?oi_382) ?hi_382 (fun K hK => ?_) AllReadyH.nil
    case hi_382 => simp only [List.getElem?_toArray, List.getElem?_cons_zero, List.getElem?_cons_succ]; try rfl
    go_simp
    (go_at_call 35
     with_reducible refine (E0.out _ HD.out).mono ?_
     rintro e w1 ⟨rfl, hb1⟩
     have HB1 : Hid (Below w.heap.size w w1) := Lib.hid (HD.out.trans (hb1.mono HD.out.size))
     clear hb1)
    refine hK.out _ _ ⟨(HX.out.below HB1.out HX.out.lt).cell 6, (HY.out.below HB1.out HY.out.lt).cell 6, (HX.out.below HB1.out HX.out.lt).cell 7, (HY.out.below HB1.out HY.out.lt).cell 7⟩ (fun hHeld => ?_)
    clear hK K
    try simp only [Act.put, List.setIfInBounds_toArray, List.set_cons_zero, List.set_cons_succ]
    refine wpAnyH_take (i := 3) (oi := ?oi_383) (v := ?_) ?hi_383 (by kernel_rfl) ?hf_383 (by kernel_rfl) ?hQ_383 ?hy_383 (by assumption) ?_
    case hi_383 => simp only [List.getElem?_toArray, List.getElem?_cons_zero, List.getElem?_cons_succ]; try rfl
    case hf_383 => kernel_rfl
    case hQ_383 => exact fun _ _ _ h => h
    case hy_383 =>
      refine Or.inl ⟨by rfl, ?_⟩
      intro W hSw
      obtain ⟨q6x, q6y, q7x, q7y⟩ := hSw
      go_simp
      try with_reducible rfl
    try simp only [Act.put, List.setIfInBounds_toArray, List.set_cons_zero, List.set_cons_succ]
    refine wpAnyH_take (i := 4) (oi := ?oi_384) (v := undef) ?hi_384 (by kernel_rfl) ?hf_384 (by kernel_rfl) ?hQ_384 ?hy_384 (by assumption) ?_
    case hi_384 => simp only [List.getElem?_toArray, List.getElem?_cons_zero, List.getElem?_cons_succ]; try rfl
    case hf_384 => kernel_rfl
    case hQ_384 => exact fun _ _ _ h => h
    case hy_384 => exact Or.inr ⟨by rfl, rfl⟩
    try simp only [Act.put, List.setIfInBounds_toArray, List.set_cons_zero, List.set_cons_succ]
    refine wpAnyH_take (i := 5) (oi := ?oi_385) (v := undef) ?hi_385 (by kernel_rfl) ?hf_385 (by kernel_rfl) ?hQ_385 ?hy_385 (by assumption) ?_
    case hi_385 => simp only [List.getElem?_toArray, List.getElem?_cons_zero, List.getElem?_cons_succ]; try rfl
    case hf_385 => kernel_rfl
    case hQ_385 => exact fun _ _ _ h => h
    case hy_385 => exact Or.inr ⟨by rfl, rfl⟩
    try simp only [Act.put, List.setIfInBounds_toArray, List.set_cons_zero, List.set_cons_succ]
    refine wpAnyH_take (i := 6) (oi := ?oi_386) (v := undef) ?hi_386 (by kernel_rfl) ?hf_386 (by kernel_rfl) ?hQ_386 ?hy_386 (by assumption) ?_
    case hi_386 => simp only [List.getElem?_toArray, List.getElem?_cons_zero, List.getElem?_cons_succ]; try rfl
    case hf_386 => kernel_rfl
    case hQ_386 => exact fun _ _ _ h => h
    case hy_386 => exact Or.inr ⟨by rfl, rfl⟩
    try simp only [Act.put, List.setIfInBounds_toArray, List.set_cons_zero, List.set_cons_succ]
    refine wpAnyH_take (i := 7) (oi := ?oi_387) (v := ?_) ?hi_387 (by kernel_rfl) ?hf_387 (by kernel_rfl) ?hQ_387 ?hy_387 (by assumption) ?_
    case hi_387 => simp only [List.getElem?_toArray, List.getElem?_cons_zero, List.getElem?_cons_succ]; try rfl
    case hf_387 => kernel_rfl
    case hQ_387 => exact fun _ _ _ h => h
    case hy_387 =>
      refine Or.inl ⟨by rfl, ?_⟩
      intro W hSw
      obtain ⟨q6x, q6y, q7x, q7y⟩ := hSw
      go_simp
      try with_reducible rfl
    try simp only [Act.put, List.setIfInBounds_toArray, List.set_cons_zero, List.set_cons_succ]
    refine wpAnyH_take (i := 8) (oi := ?oi_388) (v := ?_) ?hi_388 (by kernel_rfl) ?hf_388 (by kernel_rfl) ?hQ_388 ?hy_388 (by assumption) ?_
    case hi_388 => simp only [List.getElem?_toArray, List.getElem?_cons_zero, List.getElem?_cons_succ]; try rfl
    case hf_388 => kernel_rfl
    case hQ_388 => exact fun _ _ _ h => h
    case hy_388 =>
      refine Or.inl ⟨by rfl, ?_⟩
      intro W hSw
      obtain ⟨q6x, q6y, q7x, q7y⟩ := hSw
      go_simp
      try with_reducible rfl
    try simp only [Act.put, List.setIfInBounds_toArray, List.set_cons_zero, List.set_cons_succ]
    refine wpAnyH_take (i := 9) (oi := ?oi_389) (v := undef) ?hi_389 (by kernel_rfl) ?hf_389 (by kernel_rfl) ?hQ_389 ?hy_389 (by assumption) ?_
    case hi_389 => simp only [List.getElem?_toArray, List.getElem?_cons_zero, List.getElem?_cons_succ]; try rfl
    case hf_389 => kernel_rfl
    case hQ_389 => exact fun _ _ _ h => h
    case hy_389 => exact Or.inr ⟨by rfl, rfl⟩
    try simp only [Act.put, List.setIfInBounds_toArray, List.set_cons_zero, List.set_cons_succ]
    refine wpAnyH_take (i := 10) (oi := ?oi_390) (v := undef) ?hi_390 (by kernel_rfl) ?hf_390 (by kernel_rfl) ?hQ_390 ?hy_390 (by assumption) ?_
    case hi_390 => simp only [List.getElem?_toArray, List.getElem?_cons_zero, List.getElem?_cons_succ]; try rfl
    case hf_390 => kernel_rfl
    case hQ_390 => exact fun _ _ _ h => h
    case hy_390 => exact Or.inr ⟨by rfl, rfl⟩
    try simp only [Act.put, List.setIfInBounds_toArray, List.set_cons_zero, List.set_cons_succ]
    refine wpAnyH_take (i := 11) (oi := ?oi_391) (v := undef) ?hi_391 (by kernel_rfl) ?hf_391 (by kernel_rfl) ?hQ_391 ?hy_391 (by assumption) ?_
    case hi_391 => simp only [List.getElem?_toArray, List.getElem?_cons_zero, List.getElem?_cons_succ]; try rfl
    case hf_391 => kernel_rfl
    case hQ_391 => exact fun _ _ _ h => h
    case hy_391 => exact Or.inr ⟨by rfl, rfl⟩
    try simp only [Act.put, List.setIfInBounds_toArray, List.set_cons_zero, List.set_cons_succ]
    refine wpAnyH_take (i := 12) (oi := ?oi_392) (v := undef) ?hi_392 (by kernel_rfl) ?hf_392 (by kernel_rfl) ?hQ_392 ?hy_392 (by assumption) ?_
    case hi_392 => simp only [List.getElem?_toArray, List.getElem?_cons_zero, List.getElem?_cons_succ]; try rfl
    case hf_392 => kernel_rfl
    case hQ_392 => exact fun _ _ _ h => h
    case hy_392 => exact Or.inr ⟨by rfl, rfl⟩
    try simp only [Act.put, List.setIfInBounds_toArray, List.set_cons_zero, List.set_cons_succ]
    refine wpAnyH_take (i := 13) (oi := ?oi_393) (v := undef) ?hi_393 (by kernel_rfl) ?hf_393 (by kernel_rfl) ?hQ_393 ?hy_393 (by assumption) ?_
    case hi_393 => simp only [List.getElem?_toArray, List.getElem?_cons_zero, List.getElem?_cons_succ]; try rfl
    case hf_393 => kernel_rfl
    case hQ_393 => exact fun _ _ _ h => h
    case hy_393 => exact Or.inr ⟨by rfl, rfl⟩
    try simp only [Act.put, List.setIfInBounds_toArray, List.set_cons_zero, List.set_cons_succ]
    refine wpAnyH_take (i := 14) (oi := ?oi_394) (v := undef) ?hi_394 (by kernel_rfl) ?hf_394 (by kernel_rfl) ?hQ_394 ?hy_394 (by assumption) ?_
    case hi_394 => simp only [List.getElem?_toArray, List.getElem?_cons_zero, List.getElem?_cons_succ]; try rfl
    case hf_394 => kernel_rfl
    case hQ_394 => exact fun _ _ _ h => h
    case hy_394 => exact Or.inr ⟨by rfl, rfl⟩
    try simp only [Act.put, List.setIfInBounds_toArray, List.set_cons_zero, List.set_cons_succ]
    refine wpAnyH_take (i := 15) (oi := ?oi_395) (v := undef) ?hi_395 (by kernel_rfl) ?hf_395 (by kernel_rfl) ?hQ_395 ?hy_395 (by assumption) ?_
    case hi_395 => simp only [List.getElem?_toArray, List.getElem?_cons_zero, List.getElem?_cons_succ]; try rfl
    case hf_395 => kernel_rfl
    case hQ_395 => exact fun _ _ _ h => h
    case hy_395 => exact Or.inr ⟨by rfl, rfl⟩
    try simp only [Act.put, List.setIfInBounds_toArray, List.set_cons_zero, List.set_cons_succ]
    refine wpAnyH_take (i := 16) (oi := ?oi_396) (v := undef) ?hi_396 (by kernel_rfl) ?hf_396 (by kernel_rfl) ?hQ_396 ?hy_396 (by assumption) ?_
    case hi_396 => simp only [List.getElem?_toArray, List.getElem?_cons_zero, List.getElem?_cons_succ]; try rfl
    case hf_396 => kernel_rfl
    case hQ_396 => exact fun _ _ _ h => h
    case hy_396 => exact Or.inr ⟨by rfl, rfl⟩
    try simp only [Act.put, List.setIfInBounds_toArray, List.set_cons_zero, List.set_cons_succ]
    refine wpAnyH_take (i := 17) (oi := ?oi_397) (v := undef) ?hi_397 (by kernel_rfl) ?hf_397 (by kernel_rfl) ?hQ_397 ?hy_397 (by assumption) ?_
    case hi_397 => simp only [List.getElem?_toArray, List.getElem?_cons_zero, List.getElem?_cons_succ]; try rfl
    case hf_397 => kernel_rfl
    case hQ_397 => exact fun _ _ _ h => h
    case hy_397 => exact Or.inr ⟨by rfl, rfl⟩
    try simp only [Act.put, List.setIfInBounds_toArray, List.set_cons_zero, List.set_cons_succ]
    refine wpAnyH_take (i := 18) (oi := ?oi_398) (v := ?_) ?hi_398 (by kernel_rfl) ?hf_398 (by kernel_rfl) ?hQ_398 ?hy_398 (by assumption) ?_
    case hi_398 => simp only [List.getElem?_toArray, List.getElem?_cons_zero, List.getElem?_cons_succ]; try rfl
    case hf_398 => kernel_rfl
    case hQ_398 => exact fun _ _ _ h => h
    case hy_398 =>
      refine Or.inl ⟨by rfl, ?_⟩
      intro W hSw
      obtain ⟨q6x, q6y, q7x, q7y⟩ := hSw
      go_simp
      try with_reducible rfl
    try simp only [Act.put, List.setIfInBounds_toArray, List.set_cons_zero, List.set_cons_succ]
    refine wpAnyH_take (i := 19) (oi := ?oi_399) (v := ?_) ?hi_399 (by kernel_rfl) ?hf_399 (by kernel_rfl) ?hQ_399 ?hy_399 (by assumption) ?_
    case hi_399 => simp only [List.getElem?_toArray, List.getElem?_cons_zero, List.getElem?_cons_succ]; try rfl
    case hf_399 => kernel_rfl
    case hQ_399 => exact fun _ _ _ h => h
    case hy_399 =>
      refine Or.inl ⟨by rfl, ?_⟩
      intro W hSw
      obtain ⟨q6x, q6y, q7x, q7y⟩ := hSw
      go_simp
      try with_reducible rfl
    try simp only [Act.put, List.setIfInBounds_toArray, List.set_cons_zero, List.set_cons_succ]
    refine wpAnyH_take (i := 20) (oi := ?oi_400) (v := undef) ?hi_400 (by kernel_rfl) ?hf_400 (by kernel_rfl) ?hQ_400 ?hy_400 (by assumption) ?_
    case hi_400 => simp only [List.getElem?_toArray, List.getElem?_cons_zero, List.getElem?_cons_succ]; try rfl
    case hf_400 => kernel_rfl
    case hQ_400 => exact fun _ _ _ h => h
    case hy_400 => exact Or.inr ⟨by rfl, rfl⟩
    try simp only [Act.put, List.setIfInBounds_toArray, List.set_cons_zero, List.set_cons_succ]
    refine wpAnyH_take (i := 21) (oi := ?oi_401) (v := undef) ?hi_401 (by kernel_rfl) ?hf_401 (by kernel_rfl) ?hQ_401 ?hy_401 (by assumption) ?_
    case hi_401 => simp only [List.getElem?_toArray, List.getElem?_cons_zero, List.getElem?_cons_succ]; try rfl
    case hf_401 => kernel_rfl
    case hQ_401 => exact fun _ _ _ h => h
    case hy_401 => exact Or.inr ⟨by rfl, rfl⟩
    try simp only [Act.put, List.setIfInBounds_toArray, List.set_cons_zero, List.set_cons_succ]
    refine wpAnyH_take (i := 22) (oi := ?oi_402) (v := undef) ?hi_402 (by kernel_rfl) ?hf_402 (by kernel_rfl) ?hQ_402 ?hy_402 (by assumption) ?_
    case hi_402 => simp only [List.getElem?_toArray, List.getElem?_cons_zero, List.getElem?_cons_succ]; try rfl
    case hf_402 => kernel_rfl
    case hQ_402 => exact fun _ _ _ h => h
    case hy_402 => exact Or.inr ⟨by rfl, rfl⟩
    try simp only [Act.put, List.setIfInBounds_toArray, List.set_cons_zero, List.set_cons_succ]
    refine wpAnyH_take (i := 23) (oi := ?oi_403) (v := undef) ?hi_403 (by kernel_rfl) ?hf_403 (by kernel_rfl) ?hQ_403 ?hy_403 (by assumption) ?_
    case hi_403 => simp only [List.getElem?_toArray, List.getElem?_cons_zero, List.getElem?_cons_succ]; try rfl
    case hf_403 => kernel_rfl
    case hQ_403 => exact fun _ _ _ h => h
    case hy_403 => exact Or.inr ⟨by rfl, rfl⟩
    try simp only [Act.put, List.setIfInBounds_toArray, List.set_cons_zero, List.set_cons_succ]
    refine wpAnyH_take (i := 24) (oi := ?oi_404) (v := undef) ?hi_404 (by kernel_rfl) ?hf_404 (by kernel_rfl) ?hQ_404 ?hy_404 (by assumption) ?_
    case hi_404 => simp only [List.getElem?_toArray, List.getElem?_cons_zero, List.getElem?_cons_succ]; try rfl
    case hf_404 => kernel_rfl
    case hQ_404 => exact fun _ _ _ h => h
    case hy_404 => exact Or.inr ⟨by rfl, rfl⟩
    try simp only [Act.put, List.setIfInBounds_toArray, List.set_cons_zero, List.set_cons_succ]
    refine wpAnyH_take (i := 25) (oi := ?oi_405) (v := undef) ?hi_405 (by kernel_rfl) ?hf_405 (by kernel_rfl) ?hQ_405 ?hy_405 (by assumption) ?_
    case hi_405 => simp only [List.getElem?_toArray, List.getElem?_cons_zero, List.getElem?_cons_succ]; try rfl
    case hf_405 => kernel_rfl
    case hQ_405 => exact fun _ _ _ h => h
    case hy_405 => exact Or.inr ⟨by rfl, rfl⟩
    try simp only [Act.put, List.setIfInBounds_toArray, List.set_cons_zero, List.set_cons_succ]
    refine wpAnyH_take (i := 26) (oi := ?oi_406) (v := undef) ?hi_406 (by kernel_rfl) ?hf_406 (by kernel_rfl) ?hQ_406 ?hy_406 (by assumption) ?_
    case hi_406 => simp only [List.getElem?_toArray, List.getElem?_cons_zero, List.getElem?_cons_succ]; try rfl
    case hf_406 => kernel_rfl
    case hQ_406 => exact fun _ _ _ h => h
    case hy_406 => exact Or.inr ⟨by rfl, rfl⟩
    try simp only [Act.put, List.setIfInBounds_toArray, List.set_cons_zero, List.set_cons_succ]
    refine wpAnyH_take (i := 27) (oi := ?oi_407) (v := undef) ?hi_407 (by kernel_rfl) ?hf_407 (by kernel_rfl) ?hQ_407 ?hy_407 (by assumption) ?_
    case hi_407 => simp only [List.getElem?_toArray, List.getElem?_cons_zero, List.getElem?_cons_succ]; try rfl
    case hf_407 => kernel_rfl
    case hQ_407 => exact fun _ _ _ h => h
    case hy_407 => exact Or.inr ⟨by rfl, rfl⟩
    try simp only [Act.put, List.setIfInBounds_toArray, List.set_cons_zero, List.set_cons_succ]
    refine wpAnyH_take (i := 28) (oi := ?oi_408) (v := undef) ?hi_408 (by kernel_rfl) ?hf_408 (by kernel_rfl) ?hQ_408 ?hy_408 (by assumption) ?_
    case hi_408 => simp only [List.getElem?_toArray, List.getElem?_cons_zero, List.getElem?_cons_succ]; try rfl
    case hf_408 => kernel_rfl
    case hQ_408 => exact fun _ _ _ h => h
    case hy_408 => exact Or.inr ⟨by rfl, rfl⟩
    try simp only [Act.put, List.setIfInBounds_toArray, List.set_cons_zero, List.set_cons_succ]
    refine wpAnyH_take (i := 29) (oi := ?oi_409) (v := ?_) ?hi_409 (by kernel_rfl) ?hf_409 (by kernel_rfl) ?hQ_409 ?hy_409 (by assumption) ?_
    case hi_409 => simp only [List.getElem?_toArray, List.getElem?_cons_zero, List.getElem?_cons_succ]; try rfl
    case hf_409 => kernel_rfl
    case hQ_409 => exact fun _ _ _ h => h
    case hy_409 =>
      refine Or.inl ⟨by rfl, ?_⟩
      intro W hSw
      obtain ⟨q6x, q6y, q7x, q7y⟩ := hSw
      go_simp
      try with_reducible rfl
    try simp only [Act.put, List.setIfInBounds_toArray, List.set_cons_zero, List.set_cons_succ]
    refine wpAnyH_take (i := 30) (oi := ?oi_410) (v := ?_) ?hi_410 (by kernel_rfl) ?hf_410 (by kernel_rfl) ?hQ_410 ?hy_410 (by assumption) ?_
    case hi_410 => simp only [List.getElem?_toArray, List.getElem?_cons_zero, List.getElem?_cons_succ]; try rfl
    case hf_410 => kernel_rfl
    case hQ_410 => exact fun _ _ _ h => h
    case hy_410 =>
      refine Or.inl ⟨by rfl, ?_⟩
      intro W hSw
      obtain ⟨q6x, q6y, q7x, q7y⟩ := hSw
      go_simp
      try with_reducible rfl
    try simp only [Act.put, List.setIfInBounds_toArray, List.set_cons_zero, List.set_cons_succ]
    refine wpAnyH_done (by kernel_rfl) ?_ _
    clear hHeld
    go_wp2
    go_ret
    exact ⟨rfl, HB1.out⟩
  | true =>
  simp only [Bool.true_and]
  cases r1 with
  | false =>
    simp only [Bool.false_and]
    go_enter Try.func21, Try.ntmps21
    go_wp2_with fail
    refine wp_region_held_drew (S := (fun W => W.cell? ⟨gx, 6, none⟩ = some (.slice xA6 xn6 xc6) ∧ W.cell? ⟨gy, 6, none⟩ = some (.slice yA6 yn6 yc6) ∧ W.cell? ⟨gx, 7, none⟩ = some (.int .i64 startx) ∧ W.cell? ⟨gy, 7, none⟩ = some (.int .i64 starty))) (by kernel_rfl) ⟨HX.out.cell 6, HY.out.cell 6, HX.out.cell 7, HY.out.cell 7⟩ (fun hHeld => ?_)
    refine wpAnyH_take (i := 0) (oi := ?oi_411) (v := ?_) ?hi_411 (by kernel_rfl) ?hf_411 (by kernel_rfl) ?hQ_411 ?hy_411 (by assumption) ?_
    case hi_411 => simp only [List.getElem?_toArray, List.getElem?_cons_zero, List.getElem?_cons_succ]; try rfl
    case hf_411 => kernel_rfl
    case hQ_411 => exact fun _ _ _ h => h
    case hy_411 =>
      refine Or.inl ⟨by rfl, ?_⟩
      intro W hSw
      obtain ⟨q6x, q6y, q7x, q7y⟩ := hSw
      go_simp
      try with_reducible rfl
    try simp only [Act.put, List.setIfInBounds_toArray, List.set_cons_zero, List.set_cons_succ]
    refine wpAnyH_take (i := 1) (oi := ?oi_412) (v := ?_) ?hi_412 (by kernel_rfl) ?hf_412 (by kernel_rfl) ?hQ_412 ?hy_412 (by assumption) ?_
    case hi_412 => simp only [List.getElem?_toArray, List.getElem?_cons_zero, List.getElem?_cons_succ]; try rfl
    case hf_412 => kernel_rfl
    case hQ_412 => exact fun _ _ _ h => h
    case hy_412 =>
      refine Or.inl ⟨by rfl, ?_⟩
      intro W hSw
      obtain ⟨q6x, q6y, q7x, q7y⟩ := hSw
      go_simp
      try with_reducible rfl
    try simp only [Act.put, List.setIfInBounds_toArray, List.set_cons_zero, List.set_cons_succ]
    refine wpAnyH_ready (rs := [2]) (by kernel_rfl) (by simp) ?_
    refine AllReadyH.cons (o := ?oi_413) ?hi_413 (fun K hK => ?_) AllReadyH.nil
    case hi_413 => simp only [List.getElem?_toArray, List.getElem?_cons_zero, List.getElem?_cons_succ]; try rfl
    go_simp
    (go_at_call 35
     with_reducible refine (E0.out _ HD.out).mono ?_
     rintro e w1 ⟨rfl, hb1⟩
     have HB1 : Hid (Below w.heap.size w w1) := Lib.hid (HD.out.trans (hb1.mono HD.out.size))
     clear hb1)
    refine hK.out _ _ ⟨(HX.out.below HB1.out HX.out.lt).cell 6, (HY.out.below HB1.out HY.out.lt).cell 6, (HX.out.below HB1.out HX.out.lt).cell 7, (HY.out.below HB1.out HY.out.lt).cell 7⟩ (fun hHeld => ?_)
    clear hK K
    try simp only [Act.put, List.setIfInBounds_toArray, List.set_cons_zero, List.set_cons_succ]
    refine wpAnyH_take (i := 3) (oi := ?oi_414) (v := ?_) ?hi_414 (by kernel_rfl) ?hf_414 (by kernel_rfl) ?hQ_414 ?hy_414 (by assumption) ?_
    case hi_414 => simp only [List.getElem?_toArray, List.getElem?_cons_zero, List.getElem?_cons_succ]; try rfl
    case hf_414 => kernel_rfl
    case hQ_414 => exact fun _ _ _ h => h
    case hy_414 =>
      refine Or.inl ⟨by rfl, ?_⟩
      intro W hSw
      obtain ⟨q6x, q6y, q7x, q7y⟩ := hSw
      go_simp
      try with_reducible rfl
    try simp only [Act.put, List.setIfInBounds_toArray, List.set_cons_zero, List.set_cons_succ]
    refine wpAnyH_take (i := 4) (oi := ?oi_415) (v := ?_) ?hi_415 (by kernel_rfl) ?hf_415 (by kernel_rfl) ?hQ_415 ?hy_415 (by assumption) ?_
    case hi_415 => simp only [List.getElem?_toArray, List.getElem?_cons_zero, List.getElem?_cons_succ]; try rfl
    case hf_415 => kernel_rfl
    case hQ_415 => exact fun _ _ _ h => h
    case hy_415 =>
      refine Or.inl ⟨by rfl, ?_⟩
      intro W hSw
      obtain ⟨q6x, q6y, q7x, q7y⟩ := hSw
      go_simp
      try with_reducible rfl
    try simp only [Act.put, List.setIfInBounds_toArray, List.set_cons_zero, List.set_cons_succ]
    refine wpAnyH_take (i := 5) (oi := ?oi_416) (v := ?_) ?hi_416 (by kernel_rfl) ?hf_416 (by kernel_rfl) ?hQ_416 ?hy_416 (by assumption) ?_
    case hi_416 => simp only [List.getElem?_toArray, List.getElem?_cons_zero, List.getElem?_cons_succ]; try rfl
    case hf_416 => kernel_rfl
    case hQ_416 => exact fun _ _ _ h => h
    case hy_416 =>
      refine Or.inl ⟨by rfl, ?_⟩
      intro W hSw
      obtain ⟨q6x, q6y, q7x, q7y⟩ := hSw
      go_simp
      try with_reducible rfl
    try simp only [Act.put, List.setIfInBounds_toArray, List.set_cons_zero, List.set_cons_succ]
    refine wpAnyH_ready (rs := [6]) (by kernel_rfl) (by simp) ?_
    refine AllReadyH.cons (o := ?oi_417) ?hi_417 (fun K hK => ?_) AllReadyH.nil
    case hi_417 => simp only [List.getElem?_toArray, List.getElem?_cons_zero, List.getElem?_cons_succ]; try rfl
    go_simp
    (go_at_call 36
     with_reducible refine (E1.out _ HB1.out).mono ?_
     rintro e w2 ⟨rfl, hb2⟩
     have HB2 : Hid (Below w.heap.size w w2) := Lib.hid (HB1.out.trans (hb2.mono HB1.out.size))
     clear hb2)
    refine hK.out _ _ ⟨(HX.out.below HB2.out HX.out.lt).cell 6, (HY.out.below HB2.out HY.out.lt).cell 6, (HX.out.below HB2.out HX.out.lt).cell 7, (HY.out.below HB2.out HY.out.lt).cell 7⟩ (fun hHeld => ?_)
    clear hK K
    try simp only [Act.put, List.setIfInBounds_toArray, List.set_cons_zero, List.set_cons_succ]
    refine wpAnyH_take (i := 7) (oi := ?oi_418) (v := ?_) ?hi_418 (by kernel_rfl) ?hf_418 (by kernel_rfl) ?hQ_418 ?hy_418 (by assumption) ?_
    case hi_418 => simp only [List.getElem?_toArray, List.getElem?_cons_zero, List.getElem?_cons_succ]; try rfl
    case hf_418 => kernel_rfl
    case hQ_418 => exact fun _ _ _ h => h
    case hy_418 =>
      refine Or.inl ⟨by rfl, ?_⟩
      intro W hSw
      obtain ⟨q6x, q6y, q7x, q7y⟩ := hSw
      go_simp
      try with_reducible rfl
    try simp only [Act.put, List.setIfInBounds_toArray, List.set_cons_zero, List.set_cons_succ]
    refine wpAnyH_take (i := 8) (oi := ?oi_419) (v := ?_) ?hi_419 (by kernel_rfl) ?hf_419 (by kernel_rfl) ?hQ_419 ?hy_419 (by assumption) ?_
    case hi_419 => simp only [List.getElem?_toArray, List.getElem?_cons_zero, List.getElem?_cons_succ]; try rfl
    case hf_419 => kernel_rfl
    case hQ_419 => exact fun _ _ _ h => h
    case hy_419 =>
      refine Or.inl ⟨by rfl, ?_⟩
      intro W hSw
      obtain ⟨q6x, q6y, q7x, q7y⟩ := hSw
      go_simp
      try with_reducible rfl
    try simp only [Act.put, List.setIfInBounds_toArray, List.set_cons_zero, List.set_cons_succ]
    refine wpAnyH_take (i := 9) (oi := ?oi_420) (v := undef) ?hi_420 (by kernel_rfl) ?hf_420 (by kernel_rfl) ?hQ_420 ?hy_420 (by assumption) ?_
    case hi_420 => simp only [List.getElem?_toArray, List.getElem?_cons_zero, List.getElem?_cons_succ]; try rfl
    case hf_420 => kernel_rfl
    case hQ_420 => exact fun _ _ _ h => h
    case hy_420 => exact Or.inr ⟨by rfl, rfl⟩
    try simp only [Act.put, List.setIfInBounds_toArray, List.set_cons_zero, List.set_cons_succ]
    refine wpAnyH_take (i := 10) (oi := ?oi_421) (v := undef) ?hi_421 (by kernel_rfl) ?hf_421 (by kernel_rfl) ?hQ_421 ?hy_421 (by assumption) ?_
    case hi_421 => simp only [List.getElem?_toArray, List.getElem?_cons_zero, List.getElem?_cons_succ]; try rfl
    case hf_421 => kernel_rfl
    case hQ_421 => exact fun _ _ _ h => h
    case hy_421 => exact Or.inr ⟨by rfl, rfl⟩
    try simp only [Act.put, List.setIfInBounds_toArray, List.set_cons_zero, List.set_cons_succ]
    refine wpAnyH_take (i := 11) (oi := ?oi_422) (v := undef) ?hi_422 (by kernel_rfl) ?hf_422 (by kernel_rfl) ?hQ_422 ?hy_422 (by assumption) ?_
    case hi_422 => simp only [List.getElem?_toArray, List.getElem?_cons_zero, List.getElem?_cons_succ]; try rfl
    case hf_422 => kernel_rfl
    case hQ_422 => exact fun _ _ _ h => h
    case hy_422 => exact Or.inr ⟨by rfl, rfl⟩
    try simp only [Act.put, List.setIfInBounds_toArray, List.set_cons_zero, List.set_cons_succ]
    refine wpAnyH_take (i := 12) (oi := ?oi_423) (v := undef) ?hi_423 (by kernel_rfl) ?hf_423 (by kernel_rfl) ?hQ_423 ?hy_423 (by assumption) ?_
    case hi_423 => simp only [List.getElem?_toArray, List.getElem?_cons_zero, List.getElem?_cons_succ]; try rfl
    case hf_423 => kernel_rfl
    case hQ_423 => exact fun _ _ _ h => h
    case hy_423 => exact Or.inr ⟨by rfl, rfl⟩
    try simp only [Act.put, List.setIfInBounds_toArray, List.set_cons_zero, List.set_cons_succ]
    refine wpAnyH_take (i := 13) (oi := ?oi_424) (v := undef) ?hi_424 (by kernel_rfl) ?hf_424 (by kernel_rfl) ?hQ_424 ?hy_424 (by assumption) ?_
    case hi_424 => simp only [List.getElem?_toArray, List.getElem?_cons_zero, List.getElem?_cons_succ]; try rfl
    case hf_424 => kernel_rfl
    case hQ_424 => exact fun _ _ _ h => h
    case hy_424 => exact Or.inr ⟨by rfl, rfl⟩
    try simp only [Act.put, List.setIfInBounds_toArray, List.set_cons_zero, List.set_cons_succ]
    refine wpAnyH_take (i := 14) (oi := ?oi_425) (v := undef) ?hi_425 (by kernel_rfl) ?hf_425 (by kernel_rfl) ?hQ_425 ?hy_425 (by assumption) ?_
    case hi_425 => simp only [List.getElem?_toArray, List.getElem?_cons_zero, List.getElem?_cons_succ]; try rfl
    case hf_425 => kernel_rfl
    case hQ_425 => exact fun _ _ _ h => h
    case hy_425 => exact Or.inr ⟨by rfl, rfl⟩
    try simp only [Act.put, List.setIfInBounds_toArray, List.set_cons_zero, List.set_cons_succ]
    refine wpAnyH_take (i := 15) (oi := ?oi_426) (v := undef) ?hi_426 (by kernel_rfl) ?hf_426 (by kernel_rfl) ?hQ_426 ?hy_426 (by assumption) ?_
    case hi_426 => simp only [List.getElem?_toArray, List.getElem?_cons_zero, List.getElem?_cons_succ]; try rfl
    case hf_426 => kernel_rfl
    case hQ_426 => exact fun _ _ _ h => h
    case hy_426 => exact Or.inr ⟨by rfl, rfl⟩
    try simp only [Act.put, List.setIfInBounds_toArray, List.set_cons_zero, List.set_cons_succ]
    refine wpAnyH_take (i := 16) (oi := ?oi_427) (v := undef) ?hi_427 (by kernel_rfl) ?hf_427 (by kernel_rfl) ?hQ_427 ?hy_427 (by assumption) ?_
    case hi_427 => simp only [List.getElem?_toArray, List.getElem?_cons_zero, List.getElem?_cons_succ]; try rfl
    case hf_427 => kernel_rfl
    case hQ_427 => exact fun _ _ _ h => h
    case hy_427 => exact Or.inr ⟨by rfl, rfl⟩
    try simp only [Act.put, List.setIfInBounds_toArray, List.set_cons_zero, List.set_cons_succ]
    refine wpAnyH_take (i := 17) (oi := ?oi_428) (v := undef) ?hi_428 (by kernel_rfl) ?hf_428 (by kernel_rfl) ?hQ_428 ?hy_428 (by assumption) ?_
    case hi_428 => simp only [List.getElem?_toArray, List.getElem?_cons_zero, List.getElem?_cons_succ]; try rfl
    case hf_428 => kernel_rfl
    case hQ_428 => exact fun _ _ _ h => h
    case hy_428 => exact Or.inr ⟨by rfl, rfl⟩
    try simp only [Act.put, List.setIfInBounds_toArray, List.set_cons_zero, List.set_cons_succ]
    refine wpAnyH_take (i := 18) (oi := ?oi_429) (v := ?_) ?hi_429 (by kernel_rfl) ?hf_429 (by kernel_rfl) ?hQ_429 ?hy_429 (by assumption) ?_
    case hi_429 => simp only [List.getElem?_toArray, List.getElem?_cons_zero, List.getElem?_cons_succ]; try rfl
    case hf_429 => kernel_rfl
    case hQ_429 => exact fun _ _ _ h => h
    case hy_429 =>
      refine Or.inl ⟨by rfl, ?_⟩
      intro W hSw
      obtain ⟨q6x, q6y, q7x, q7y⟩ := hSw
      go_simp
      try with_reducible rfl
    try simp only [Act.put, List.setIfInBounds_toArray, List.set_cons_zero, List.set_cons_succ]
    refine wpAnyH_take (i := 19) (oi := ?oi_430) (v := ?_) ?hi_430 (by kernel_rfl) ?hf_430 (by kernel_rfl) ?hQ_430 ?hy_430 (by assumption) ?_
    case hi_430 => simp only [List.getElem?_toArray, List.getElem?_cons_zero, List.getElem?_cons_succ]; try rfl
    case hf_430 => kernel_rfl
    case hQ_430 => exact fun _ _ _ h => h
    case hy_430 =>
      refine Or.inl ⟨by rfl, ?_⟩
      intro W hSw
      obtain ⟨q6x, q6y, q7x, q7y⟩ := hSw
      go_simp
      try with_reducible rfl
    try simp only [Act.put, List.setIfInBounds_toArray, List.set_cons_zero, List.set_cons_succ]
    refine wpAnyH_take (i := 20) (oi := ?oi_431) (v := undef) ?hi_431 (by kernel_rfl) ?hf_431 (by kernel_rfl) ?hQ_431 ?hy_431 (by assumption) ?_
    case hi_431 => simp only [List.getElem?_toArray, List.getElem?_cons_zero, List.getElem?_cons_succ]; try rfl
    case hf_431 => kernel_rfl
    case hQ_431 => exact fun _ _ _ h => h
    case hy_431 => exact Or.inr ⟨by rfl, rfl⟩
    try simp only [Act.put, List.setIfInBounds_toArray, List.set_cons_zero, List.set_cons_succ]
    refine wpAnyH_take (i := 21) (oi := ?oi_432) (v := undef) ?hi_432 (by kernel_rfl) ?hf_432 (by kernel_rfl) ?hQ_432 ?hy_432 (by assumption) ?_
    case hi_432 => simp only [List.getElem?_toArray, List.getElem?_cons_zero, List.getElem?_cons_succ]; try rfl
    case hf_432 => kernel_rfl
    case hQ_432 => exact fun _ _ _ h => h
    case hy_432 => exact Or.inr ⟨by rfl, rfl⟩
    try simp only [Act.put, List.setIfInBounds_toArray, List.set_cons_zero, List.set_cons_succ]
    refine wpAnyH_take (i := 22) (oi := ?oi_433) (v := undef) ?hi_433 (by kernel_rfl) ?hf_433 (by kernel_rfl) ?hQ_433 ?hy_433 (by assumption) ?_
    case hi_433 => simp only [List.getElem?_toArray, List.getElem?_cons_zero, List.getElem?_cons_succ]; try rfl
    case hf_433 => kernel_rfl
    case hQ_433 => exact fun _ _ _ h => h
    case hy_433 => exact Or.inr ⟨by rfl, rfl⟩
    try simp only [Act.put, List.setIfInBounds_toArray, List.set_cons_zero, List.set_cons_succ]
    refine wpAnyH_take (i := 23) (oi := ?oi_434) (v := undef) ?hi_434 (by kernel_rfl) ?hf_434 (by kernel_rfl) ?hQ_434 ?hy_434 (by assumption) ?_
    case hi_434 => simp only [List.getElem?_toArray, List.getElem?_cons_zero, List.getElem?_cons_succ]; try rfl
    case hf_434 => kernel_rfl
    case hQ_434 => exact fun _ _ _ h => h
    case hy_434 => exact Or.inr ⟨by rfl, rfl⟩
    try simp only [Act.put, List.setIfInBounds_toArray, List.set_cons_zero, List.set_cons_succ]
    refine wpAnyH_take (i := 24) (oi := ?oi_435) (v := undef) ?hi_435 (by kernel_rfl) ?hf_435 (by kernel_rfl) ?hQ_435 ?hy_435 (by assumption) ?_
    case hi_435 => simp only [List.getElem?_toArray, List.getElem?_cons_zero, List.getElem?_cons_succ]; try rfl
    case hf_435 => kernel_rfl
    case hQ_435 => exact fun _ _ _ h => h
    case hy_435 => exact Or.inr ⟨by rfl, rfl⟩
    try simp only [Act.put, List.setIfInBounds_toArray, List.set_cons_zero, List.set_cons_succ]
    refine wpAnyH_take (i := 25) (oi := ?oi_436) (v := undef) ?hi_436 (by kernel_rfl) ?hf_436 (by kernel_rfl) ?hQ_436 ?hy_436 (by assumption) ?_
    case hi_436 => simp only [List.getElem?_toArray, List.getElem?_cons_zero, List.getElem?_cons_succ]; try rfl
    case hf_436 => kernel_rfl
    case hQ_436 => exact fun _ _ _ h => h
    case hy_436 => exact Or.inr ⟨by rfl, rfl⟩
    try simp only [Act.put, List.setIfInBounds_toArray, List.set_cons_zero, List.set_cons_succ]
    refine wpAnyH_take (i := 26) (oi := ?oi_437) (v := undef) ?hi_437 (by kernel_rfl) ?hf_437 (by kernel_rfl) ?hQ_437 ?hy_437 (by assumption) ?_
    case hi_437 => simp only [List.getElem?_toArray, List.getElem?_cons_zero, List.getElem?_cons_succ]; try rfl
    case hf_437 => kernel_rfl
    case hQ_437 => exact fun _ _ _ h => h
    case hy_437 => exact Or.inr ⟨by rfl, rfl⟩
    try simp only [Act.put, List.setIfInBounds_toArray, List.set_cons_zero, List.set_cons_succ]
    refine wpAnyH_take (i := 27) (oi := ?oi_438) (v := undef) ?hi_438 (by kernel_rfl) ?hf_438 (by kernel_rfl) ?hQ_438 ?hy_438 (by assumption) ?_
    case hi_438 => simp only [List.getElem?_toArray, List.getElem?_cons_zero, List.getElem?_cons_succ]; try rfl
    case hf_438 => kernel_rfl
    case hQ_438 => exact fun _ _ _ h => h
    case hy_438 => exact Or.inr ⟨by rfl, rfl⟩
    try simp only [Act.put, List.setIfInBounds_toArray, List.set_cons_zero, List.set_cons_succ]
    refine wpAnyH_take (i := 28) (oi := ?oi_439) (v := undef) ?hi_439 (by kernel_rfl) ?hf_439 (by kernel_rfl) ?hQ_439 ?hy_439 (by assumption) ?_
    case hi_439 => simp only [List.getElem?_toArray, List.getElem?_cons_zero, List.getElem?_cons_succ]; try rfl
    case hf_439 => kernel_rfl
    case hQ_439 => exact fun _ _ _ h => h
    case hy_439 => exact Or.inr ⟨by rfl, rfl⟩
    try simp only [Act.put, List.setIfInBounds_toArray, List.set_cons_zero, List.set_cons_succ]
    refine wpAnyH_take (i := 29) (oi := ?oi_440) (v := ?_) ?hi_440 (by kernel_rfl) ?hf_440 (by kernel_rfl) ?hQ_440 ?hy_440 (by assumption) ?_
    case hi_440 => simp only [List.getElem?_toArray, List.getElem?_cons_zero, List.getElem?_cons_succ]; try rfl
    case hf_440 => kernel_rfl
    case hQ_440 => exact fun _ _ _ h => h
    case hy_440 =>
      refine Or.inl ⟨by rfl, ?_⟩
      intro W hSw
      obtain ⟨q6x, q6y, q7x, q7y⟩ := hSw
      go_simp
      try with_reducible rfl
    try simp only [Act.put, List.setIfInBounds_toArray, List.set_cons_zero, List.set_cons_succ]
    refine wpAnyH_take (i := 30) (oi := ?oi_441) (v := ?_) ?hi_441 (by kernel_rfl) ?hf_441 (by kernel_rfl) ?hQ_441 ?hy_441 (by assumption) ?_
    case hi_441 => simp only [List.getElem?_toArray, List.getElem?_cons_zero, List.getElem?_cons_succ]; try rfl
    case hf_441 => kernel_rfl
    case hQ_441 => exact fun _ _ _ h => h
    case hy_441 =>
      refine Or.inl ⟨by rfl, ?_⟩
      intro W hSw
      obtain ⟨q6x, q6y, q7x, q7y⟩ := hSw
      go_simp
      try with_reducible rfl
    try simp only [Act.put, List.setIfInBounds_toArray, List.set_cons_zero, List.set_cons_succ]
    refine wpAnyH_done (by kernel_rfl) ?_ _
    clear hHeld
    go_wp2
    go_ret
    exact ⟨rfl, HB2.out⟩
  | true =>
  simp only [Bool.true_and]
  cases r2 with
  | false =>
    simp only [Bool.false_and]
    go_enter Try.func21, Try.ntmps21
    go_wp2_with fail
    refine wp_region_held_drew (S := (fun W => W.cell? ⟨gx, 6, none⟩ = some (.slice xA6 xn6 xc6) ∧ W.cell? ⟨gy, 6, none⟩ = some (.slice yA6 yn6 yc6) ∧ W.cell? ⟨gx, 7, none⟩ = some (.int .i64 startx) ∧ W.cell? ⟨gy, 7, none⟩ = some (.int .i64 starty))) (by kernel_rfl) ⟨HX.out.cell 6, HY.out.cell 6, HX.out.cell 7, HY.out.cell 7⟩ (fun hHeld => ?_)
    refine wpAnyH_take (i := 0) (oi := ?oi_442) (v := ?_) ?hi_442 (by kernel_rfl) ?hf_442 (by kernel_rfl) ?hQ_442 ?hy_442 (by assumption) ?_
    case hi_442 => simp only [List.getElem?_toArray, List.getElem?_cons_zero, List.getElem?_cons_succ]; try rfl
    case hf_442 => kernel_rfl
    case hQ_442 => exact fun _ _ _ h => h
    case hy_442 =>
      refine Or.inl ⟨by rfl, ?_⟩
      intro W hSw
      obtain ⟨q6x, q6y, q7x, q7y⟩ := hSw
      go_simp
      try with_reducible rfl
    try simp only [Act.put, List.setIfInBounds_toArray, List.set_cons_zero, List.set_cons_succ]
    refine wpAnyH_take (i := 1) (oi := ?oi_443) (v := ?_) ?hi_443 (by kernel_rfl) ?hf_443 (by kernel_rfl) ?hQ_443 ?hy_443 (by assumption) ?_
    case hi_443 => simp only [List.getElem?_toArray, List.getElem?_cons_zero, List.getElem?_cons_succ]; try rfl
    case hf_443 => kernel_rfl
    case hQ_443 => exact fun _ _ _ h => h
    case hy_443 =>
      refine Or.inl ⟨by rfl, ?_⟩
      intro W hSw
      obtain ⟨q6x, q6y, q7x, q7y⟩ := hSw
      go_simp
      try with_reducible rfl
    try simp only [Act.put, List.setIfInBounds_toArray, List.set_cons_zero, List.set_cons_succ]
    refine wpAnyH_ready (rs := [2]) (by kernel_rfl) (by simp) ?_
    refine AllReadyH.cons (o := ?oi_444) ?hi_444 (fun K hK => ?_) AllReadyH.nil
    case hi_444 => simp only [List.getElem?_toArray, List.getElem?_cons_zero, List.getElem?_cons_succ]; try rfl
    go_simp
    (go_at_call 35
     with_reducible refine (E0.out _ HD.out).mono ?_
     rintro e w1 ⟨rfl, hb1⟩
     have HB1 : Hid (Below w.heap.size w w1) := Lib.hid (HD.out.trans (hb1.mono HD.out.size))
     clear hb1)
    refine hK.out _ _ ⟨(HX.out.below HB1.out HX.out.lt).cell 6, (HY.out.below HB1.out HY.out.lt).cell 6, (HX.out.below HB1.out HX.out.lt).cell 7, (HY.out.below HB1.out HY.out.lt).cell 7⟩ (fun hHeld => ?_)
    clear hK K
    try simp only [Act.put, List.setIfInBounds_toArray, List.set_cons_zero, List.set_cons_succ]
    refine wpAnyH_take (i := 3) (oi := ?oi_445) (v := ?_) ?hi_445 (by kernel_rfl) ?hf_445 (by kernel_rfl) ?hQ_445 ?hy_445 (by assumption) ?_
    case hi_445 => simp only [List.getElem?_toArray, List.getElem?_cons_zero, List.getElem?_cons_succ]; try rfl
    case hf_445 => kernel_rfl
    case hQ_445 => exact fun _ _ _ h => h
    case hy_445 =>
      refine Or.inl ⟨by rfl, ?_⟩
      intro W hSw
      obtain ⟨q6x, q6y, q7x, q7y⟩ := hSw
      go_simp
      try with_reducible rfl
    try simp only [Act.put, List.setIfInBounds_toArray, List.set_cons_zero, List.set_cons_succ]
    refine wpAnyH_take (i := 4) (oi := ?oi_446) (v := ?_) ?hi_446 (by kernel_rfl) ?hf_446 (by kernel_rfl) ?hQ_446 ?hy_446 (by assumption) ?_
    case hi_446 => simp only [List.getElem?_toArray, List.getElem?_cons_zero, List.getElem?_cons_succ]; try rfl
    case hf_446 => kernel_rfl
    case hQ_446 => exact fun _ _ _ h => h
    case hy_446 =>
      refine Or.inl ⟨by rfl, ?_⟩
      intro W hSw
      obtain ⟨q6x, q6y, q7x, q7y⟩ := hSw
      go_simp
      try with_reducible rfl
    try simp only [Act.put, List.setIfInBounds_toArray, List.set_cons_zero, List.set_cons_succ]
    refine wpAnyH_take (i := 5) (oi := ?oi_447) (v := ?_) ?hi_447 (by kernel_rfl) ?hf_447 (by kernel_rfl) ?hQ_447 ?hy_447 (by assumption) ?_
    case hi_447 => simp only [List.getElem?_toArray, List.getElem?_cons_zero, List.getElem?_cons_succ]; try rfl
    case hf_447 => kernel_rfl
    case hQ_447 => exact fun _ _ _ h => h
    case hy_447 =>
      refine Or.inl ⟨by rfl, ?_⟩
      intro W hSw
      obtain ⟨q6x, q6y, q7x, q7y⟩ := hSw
      go_simp
      try with_reducible rfl
    try simp only [Act.put, List.setIfInBounds_toArray, List.set_cons_zero, List.set_cons_succ]
    refine wpAnyH_ready (rs := [6]) (by kernel_rfl) (by simp) ?_
    refine AllReadyH.cons (o := ?oi_448) ?hi_448 (fun K hK => ?_) AllReadyH.nil
    case hi_448 => simp only [List.getElem?_toArray, List.getElem?_cons_zero, List.getElem?_cons_succ]; try rfl
    go_simp
    (go_at_call 36
     with_reducible refine (E1.out _ HB1.out).mono ?_
     rintro e w2 ⟨rfl, hb2⟩
     have HB2 : Hid (Below w.heap.size w w2) := Lib.hid (HB1.out.trans (hb2.mono HB1.out.size))
     clear hb2)
    refine hK.out _ _ ⟨(HX.out.below HB2.out HX.out.lt).cell 6, (HY.out.below HB2.out HY.out.lt).cell 6, (HX.out.below HB2.out HX.out.lt).cell 7, (HY.out.below HB2.out HY.out.lt).cell 7⟩ (fun hHeld => ?_)
    clear hK K
    try simp only [Act.put, List.setIfInBounds_toArray, List.set_cons_zero, List.set_cons_succ]
    refine wpAnyH_take (i := 7) (oi := ?oi_449) (v := ?_) ?hi_449 (by kernel_rfl) ?hf_449 (by kernel_rfl) ?hQ_449 ?hy_449 (by assumption) ?_
    case hi_449 => simp only [List.getElem?_toArray, List.getElem?_cons_zero, List.getElem?_cons_succ]; try rfl
    case hf_449 => kernel_rfl
    case hQ_449 => exact fun _ _ _ h => h
    case hy_449 =>
      refine Or.inl ⟨by rfl, ?_⟩
      intro W hSw
      obtain ⟨q6x, q6y, q7x, q7y⟩ := hSw
      go_simp
      try with_reducible rfl
    try simp only [Act.put, List.setIfInBounds_toArray, List.set_cons_zero, List.set_cons_succ]
    refine wpAnyH_take (i := 8) (oi := ?oi_450) (v := ?_) ?hi_450 (by kernel_rfl) ?hf_450 (by kernel_rfl) ?hQ_450 ?hy_450 (by assumption) ?_
    case hi_450 => simp only [List.getElem?_toArray, List.getElem?_cons_zero, List.getElem?_cons_succ]; try rfl
    case hf_450 => kernel_rfl
    case hQ_450 => exact fun _ _ _ h => h
    case hy_450 =>
      refine Or.inl ⟨by rfl, ?_⟩
      intro W hSw
      obtain ⟨q6x, q6y, q7x, q7y⟩ := hSw
      go_simp
      try with_reducible rfl
    try simp only [Act.put, List.setIfInBounds_toArray, List.set_cons_zero, List.set_cons_succ]
    refine wpAnyH_take (i := 9) (oi := ?oi_451) (v := ?_) ?hi_451 (by kernel_rfl) ?hf_451 (by kernel_rfl) ?hQ_451 ?hy_451 (by assumption) ?_
    case hi_451 => simp only [List.getElem?_toArray, List.getElem?_cons_zero, List.getElem?_cons_succ]; try rfl
    case hf_451 => kernel_rfl
    case hQ_451 => exact fun _ _ _ h => h
    case hy_451 =>
      refine Or.inl ⟨by rfl, ?_⟩
      intro W hSw
      obtain ⟨q6x, q6y, q7x, q7y⟩ := hSw
      go_simp
      try with_reducible rfl
    try simp only [Act.put, List.setIfInBounds_toArray, List.set_cons_zero, List.set_cons_succ]
    refine wpAnyH_take (i := 10) (oi := ?oi_452) (v := ?_) ?hi_452 (by kernel_rfl) ?hf_452 (by kernel_rfl) ?hQ_452 ?hy_452 (by assumption) ?_
    case hi_452 => simp only [List.getElem?_toArray, List.getElem?_cons_zero, List.getElem?_cons_succ]; try rfl
    case hf_452 => kernel_rfl
    case hQ_452 => exact fun _ _ _ h => h
    case hy_452 =>
      refine Or.inl ⟨by rfl, ?_⟩
      intro W hSw
      obtain ⟨q6x, q6y, q7x, q7y⟩ := hSw
      go_simp
      try with_reducible rfl
    try simp only [Act.put, List.setIfInBounds_toArray, List.set_cons_zero, List.set_cons_succ]
    refine wpAnyH_take (i := 11) (oi := ?oi_453) (v := ?_) ?hi_453 (by kernel_rfl) ?hf_453 (by kernel_rfl) ?hQ_453 ?hy_453 (by assumption) ?_
    case hi_453 => simp only [List.getElem?_toArray, List.getElem?_cons_zero, List.getElem?_cons_succ]; try rfl
    case hf_453 => kernel_rfl
    case hQ_453 => exact fun _ _ _ h => h
    case hy_453 =>
      refine Or.inl ⟨by rfl, ?_⟩
      intro W hSw
      obtain ⟨q6x, q6y, q7x, q7y⟩ := hSw
      go_simp
      try with_reducible rfl
    try simp only [Act.put, List.setIfInBounds_toArray, List.set_cons_zero, List.set_cons_succ]
    refine wpAnyH_take (i := 12) (oi := ?oi_454) (v := ?_) ?hi_454 (by kernel_rfl) ?hf_454 (by kernel_rfl) ?hQ_454 ?hy_454 (by assumption) ?_
    case hi_454 => simp only [List.getElem?_toArray, List.getElem?_cons_zero, List.getElem?_cons_succ]; try rfl
    case hf_454 => kernel_rfl
    case hQ_454 => exact fun _ _ _ h => h
    case hy_454 =>
      refine Or.inl ⟨by rfl, ?_⟩
      intro W hSw
      obtain ⟨q6x, q6y, q7x, q7y⟩ := hSw
      go_simp
      try with_reducible rfl
    try simp only [Act.put, List.setIfInBounds_toArray, List.set_cons_zero, List.set_cons_succ]
    refine wpAnyH_take (i := 13) (oi := ?oi_455) (v := ?_) ?hi_455 (by kernel_rfl) ?hf_455 (by kernel_rfl) ?hQ_455 ?hy_455 (by assumption) ?_
    case hi_455 => simp only [List.getElem?_toArray, List.getElem?_cons_zero, List.getElem?_cons_succ]; try rfl
    case hf_455 => kernel_rfl
    case hQ_455 => exact fun _ _ _ h => h
    case hy_455 =>
      refine Or.inl ⟨by rfl, ?_⟩
      intro W hSw
      obtain ⟨q6x, q6y, q7x, q7y⟩ := hSw
      go_simp
      try with_reducible rfl
    try simp only [Act.put, List.setIfInBounds_toArray, List.set_cons_zero, List.set_cons_succ]
    refine wpAnyH_take (i := 14) (oi := ?oi_456) (v := ?_) ?hi_456 (by kernel_rfl) ?hf_456 (by kernel_rfl) ?hQ_456 ?hy_456 (by assumption) ?_
    case hi_456 => simp only [List.getElem?_toArray, List.getElem?_cons_zero, List.getElem?_cons_succ]; try rfl
    case hf_456 => kernel_rfl
    case hQ_456 => exact fun _ _ _ h => h
    case hy_456 =>
      refine Or.inl ⟨by rfl, ?_⟩
      intro W hSw
      obtain ⟨q6x, q6y, q7x, q7y⟩ := hSw
      go_simp
      try with_reducible rfl
    try simp only [Act.put, List.setIfInBounds_toArray, List.set_cons_zero, List.set_cons_succ]
    refine wpAnyH_take (i := 15) (oi := ?oi_457) (v := ?_) ?hi_457 (by kernel_rfl) ?hf_457 (by kernel_rfl) ?hQ_457 ?hy_457 (by assumption) ?_
    case hi_457 => simp only [List.getElem?_toArray, List.getElem?_cons_zero, List.getElem?_cons_succ]; try rfl
    case hf_457 => kernel_rfl
    case hQ_457 => exact fun _ _ _ h => h
    case hy_457 =>
      refine Or.inl ⟨by rfl, ?_⟩
      intro W hSw
      obtain ⟨q6x, q6y, q7x, q7y⟩ := hSw
      go_simp
      try with_reducible rfl
    try simp only [Act.put, List.setIfInBounds_toArray, List.set_cons_zero, List.set_cons_succ]
    refine wpAnyH_take (i := 16) (oi := ?oi_458) (v := ?_) ?hi_458 (by kernel_rfl) ?hf_458 (by kernel_rfl) ?hQ_458 ?hy_458 (by assumption) ?_
    case hi_458 => simp only [List.getElem?_toArray, List.getElem?_cons_zero, List.getElem?_cons_succ]; try rfl
    case hf_458 => kernel_rfl
    case hQ_458 => exact fun _ _ _ h => h
    case hy_458 =>
      refine Or.inl ⟨by rfl, ?_⟩
      intro W hSw
      obtain ⟨q6x, q6y, q7x, q7y⟩ := hSw
      go_simp
      try with_reducible rfl
    try simp only [Act.put, List.setIfInBounds_toArray, List.set_cons_zero, List.set_cons_succ]
    refine wpAnyH_ready (rs := [17]) (by kernel_rfl) (by simp) ?_
    refine AllReadyH.cons (o := ?oi_459) ?hi_459 (fun K hK => ?_) AllReadyH.nil
    case hi_459 => simp only [List.getElem?_toArray, List.getElem?_cons_zero, List.getElem?_cons_succ]; try rfl
    go_simp
    (go_at_call 37
     with_reducible refine (E2.out _ HB2.out).mono ?_
     rintro e w3 ⟨rfl, hb3⟩
     have HB3 : Hid (Below w.heap.size w w3) := Lib.hid (HB2.out.trans (hb3.mono HB2.out.size))
     clear hb3)
    refine hK.out _ _ ⟨(HX.out.below HB3.out HX.out.lt).cell 6, (HY.out.below HB3.out HY.out.lt).cell 6, (HX.out.below HB3.out HX.out.lt).cell 7, (HY.out.below HB3.out HY.out.lt).cell 7⟩ (fun hHeld => ?_)
    clear hK K
    try simp only [Act.put, List.setIfInBounds_toArray, List.set_cons_zero, List.set_cons_succ]
    refine wpAnyH_take (i := 18) (oi := ?oi_460) (v := ?_) ?hi_460 (by kernel_rfl) ?hf_460 (by kernel_rfl) ?hQ_460 ?hy_460 (by assumption) ?_
    case hi_460 => simp only [List.getElem?_toArray, List.getElem?_cons_zero, List.getElem?_cons_succ]; try rfl
    case hf_460 => kernel_rfl
    case hQ_460 => exact fun _ _ _ h => h
    case hy_460 =>
      refine Or.inl ⟨by rfl, ?_⟩
      intro W hSw
      obtain ⟨q6x, q6y, q7x, q7y⟩ := hSw
      go_simp
      try with_reducible rfl
    try simp only [Act.put, List.setIfInBounds_toArray, List.set_cons_zero, List.set_cons_succ]
    refine wpAnyH_take (i := 19) (oi := ?oi_461) (v := ?_) ?hi_461 (by kernel_rfl) ?hf_461 (by kernel_rfl) ?hQ_461 ?hy_461 (by assumption) ?_
    case hi_461 => simp only [List.getElem?_toArray, List.getElem?_cons_zero, List.getElem?_cons_succ]; try rfl
    case hf_461 => kernel_rfl
    case hQ_461 => exact fun _ _ _ h => h
    case hy_461 =>
      refine Or.inl ⟨by rfl, ?_⟩
      intro W hSw
      obtain ⟨q6x, q6y, q7x, q7y⟩ := hSw
      go_simp
      try with_reducible rfl
    try simp only [Act.put, List.setIfInBounds_toArray, List.set_cons_zero, List.set_cons_succ]
    refine wpAnyH_take (i := 20) (oi := ?oi_462) (v := undef) ?hi_462 (by kernel_rfl) ?hf_462 (by kernel_rfl) ?hQ_462 ?hy_462 (by assumption) ?_
    case hi_462 => simp only [List.getElem?_toArray, List.getElem?_cons_zero, List.getElem?_cons_succ]; try rfl
    case hf_462 => kernel_rfl
    case hQ_462 => exact fun _ _ _ h => h
    case hy_462 => exact Or.inr ⟨by rfl, rfl⟩
    try simp only [Act.put, List.setIfInBounds_toArray, List.set_cons_zero, List.set_cons_succ]
    refine wpAnyH_take (i := 21) (oi := ?oi_463) (v := undef) ?hi_463 (by kernel_rfl) ?hf_463 (by kernel_rfl) ?hQ_463 ?hy_463 (by assumption) ?_
    case hi_463 => simp only [List.getElem?_toArray, List.getElem?_cons_zero, List.getElem?_cons_succ]; try rfl
    case hf_463 => kernel_rfl
    case hQ_463 => exact fun _ _ _ h => h
    case hy_463 => exact Or.inr ⟨by rfl, rfl⟩
    try simp only [Act.put, List.setIfInBounds_toArray, List.set_cons_zero, List.set_cons_succ]
    refine wpAnyH_take (i := 22) (oi := ?oi_464) (v := undef) ?hi_464 (by kernel_rfl) ?hf_464 (by kernel_rfl) ?hQ_464 ?hy_464 (by assumption) ?_
    case hi_464 => simp only [List.getElem?_toArray, List.getElem?_cons_zero, List.getElem?_cons_succ]; try rfl
    case hf_464 => kernel_rfl
    case hQ_464 => exact fun _ _ _ h => h
    case hy_464 => exact Or.inr ⟨by rfl, rfl⟩
    try simp only [Act.put, List.setIfInBounds_toArray, List.set_cons_zero, List.set_cons_succ]
    refine wpAnyH_take (i := 23) (oi := ?oi_465) (v := undef) ?hi_465 (by kernel_rfl) ?hf_465 (by kernel_rfl) ?hQ_465 ?hy_465 (by assumption) ?_
    case hi_465 => simp only [List.getElem?_toArray, List.getElem?_cons_zero, List.getElem?_cons_succ]; try rfl
    case hf_465 => kernel_rfl
    case hQ_465 => exact fun _ _ _ h => h
    case hy_465 => exact Or.inr ⟨by rfl, rfl⟩
    try simp only [Act.put, List.setIfInBounds_toArray, List.set_cons_zero, List.set_cons_succ]
    refine wpAnyH_take (i := 24) (oi := ?oi_466) (v := undef) ?hi_466 (by kernel_rfl) ?hf_466 (by kernel_rfl) ?hQ_466 ?hy_466 (by assumption) ?_
    case hi_466 => simp only [List.getElem?_toArray, List.getElem?_cons_zero, List.getElem?_cons_succ]; try rfl
    case hf_466 => kernel_rfl
    case hQ_466 => exact fun _ _ _ h => h
    case hy_466 => exact Or.inr ⟨by rfl, rfl⟩
    try simp only [Act.put, List.setIfInBounds_toArray, List.set_cons_zero, List.set_cons_succ]
    refine wpAnyH_take (i := 25) (oi := ?oi_467) (v := undef) ?hi_467 (by kernel_rfl) ?hf_467 (by kernel_rfl) ?hQ_467 ?hy_467 (by assumption) ?_
    case hi_467 => simp only [List.getElem?_toArray, List.getElem?_cons_zero, List.getElem?_cons_succ]; try rfl
    case hf_467 => kernel_rfl
    case hQ_467 => exact fun _ _ _ h => h
    case hy_467 => exact Or.inr ⟨by rfl, rfl⟩
    try simp only [Act.put, List.setIfInBounds_toArray, List.set_cons_zero, List.set_cons_succ]
    refine wpAnyH_take (i := 26) (oi := ?oi_468) (v := undef) ?hi_468 (by kernel_rfl) ?hf_468 (by kernel_rfl) ?hQ_468 ?hy_468 (by assumption) ?_
    case hi_468 => simp only [List.getElem?_toArray, List.getElem?_cons_zero, List.getElem?_cons_succ]; try rfl
    case hf_468 => kernel_rfl
    case hQ_468 => exact fun _ _ _ h => h
    case hy_468 => exact Or.inr ⟨by rfl, rfl⟩
    try simp only [Act.put, List.setIfInBounds_toArray, List.set_cons_zero, List.set_cons_succ]
    refine wpAnyH_take (i := 27) (oi := ?oi_469) (v := undef) ?hi_469 (by kernel_rfl) ?hf_469 (by kernel_rfl) ?hQ_469 ?hy_469 (by assumption) ?_
    case hi_469 => simp only [List.getElem?_toArray, List.getElem?_cons_zero, List.getElem?_cons_succ]; try rfl
    case hf_469 => kernel_rfl
    case hQ_469 => exact fun _ _ _ h => h
    case hy_469 => exact Or.inr ⟨by rfl, rfl⟩
    try simp only [Act.put, List.setIfInBounds_toArray, List.set_cons_zero, List.set_cons_succ]
    refine wpAnyH_take (i := 28) (oi := ?oi_470) (v := undef) ?hi_470 (by kernel_rfl) ?hf_470 (by kernel_rfl) ?hQ_470 ?hy_470 (by assumption) ?_
    case hi_470 => simp only [List.getElem?_toArray, List.getElem?_cons_zero, List.getElem?_cons_succ]; try rfl
    case hf_470 => kernel_rfl
    case hQ_470 => exact fun _ _ _ h => h
    case hy_470 => exact Or.inr ⟨by rfl, rfl⟩
    try simp only [Act.put, List.setIfInBounds_toArray, List.set_cons_zero, List.set_cons_succ]
    refine wpAnyH_take (i := 29) (oi := ?oi_471) (v := ?_) ?hi_471 (by kernel_rfl) ?hf_471 (by kernel_rfl) ?hQ_471 ?hy_471 (by assumption) ?_
    case hi_471 => simp only [List.getElem?_toArray, List.getElem?_cons_zero, List.getElem?_cons_succ]; try rfl
    case hf_471 => kernel_rfl
    case hQ_471 => exact fun _ _ _ h => h
    case hy_471 =>
      refine Or.inl ⟨by rfl, ?_⟩
      intro W hSw
      obtain ⟨q6x, q6y, q7x, q7y⟩ := hSw
      go_simp
      try with_reducible rfl
    try simp only [Act.put, List.setIfInBounds_toArray, List.set_cons_zero, List.set_cons_succ]
    refine wpAnyH_take (i := 30) (oi := ?oi_472) (v := ?_) ?hi_472 (by kernel_rfl) ?hf_472 (by kernel_rfl) ?hQ_472 ?hy_472 (by assumption) ?_
    case hi_472 => simp only [List.getElem?_toArray, List.getElem?_cons_zero, List.getElem?_cons_succ]; try rfl
    case hf_472 => kernel_rfl
    case hQ_472 => exact fun _ _ _ h => h
    case hy_472 =>
      refine Or.inl ⟨by rfl, ?_⟩
      intro W hSw
      obtain ⟨q6x, q6y, q7x, q7y⟩ := hSw
      go_simp
      try with_reducible rfl
    try simp only [Act.put, List.setIfInBounds_toArray, List.set_cons_zero, List.set_cons_succ]
    refine wpAnyH_done (by kernel_rfl) ?_ _
    clear hHeld
    go_wp2
    go_ret
    exact ⟨rfl, HB3.out⟩
  | true =>
  simp only [Bool.true_and]
  go_enter Try.func21, Try.ntmps21
  go_wp2_with fail
  refine wp_region_held_drew (S := (fun W => W.cell? ⟨gx, 6, none⟩ = some (.slice xA6 xn6 xc6) ∧ W.cell? ⟨gy, 6, none⟩ = some (.slice yA6 yn6 yc6) ∧ W.cell? ⟨gx, 7, none⟩ = some (.int .i64 startx) ∧ W.cell? ⟨gy, 7, none⟩ = some (.int .i64 starty))) (by kernel_rfl) ⟨HX.out.cell 6, HY.out.cell 6, HX.out.cell 7, HY.out.cell 7⟩ (fun hHeld => ?_)
  refine wpAnyH_take (i := 0) (oi := ?oi_473) (v := ?_) ?hi_473 (by kernel_rfl) ?hf_473 (by kernel_rfl) ?hQ_473 ?hy_473 (by assumption) ?_
  case hi_473 => simp only [List.getElem?_toArray, List.getElem?_cons_zero, List.getElem?_cons_succ]; try rfl
  case hf_473 => kernel_rfl
  case hQ_473 => exact fun _ _ _ h => h
  case hy_473 =>
    refine Or.inl ⟨by rfl, ?_⟩
    intro W hSw
    obtain ⟨q6x, q6y, q7x, q7y⟩ := hSw
    go_simp
    try with_reducible rfl
  try simp only [Act.put, List.setIfInBounds_toArray, List.set_cons_zero, List.set_cons_succ]
  refine wpAnyH_take (i := 1) (oi := ?oi_474) (v := ?_) ?hi_474 (by kernel_rfl) ?hf_474 (by kernel_rfl) ?hQ_474 ?hy_474 (by assumption) ?_
  case hi_474 => simp only [List.getElem?_toArray, List.getElem?_cons_zero, List.getElem?_cons_succ]; try rfl
  case hf_474 => kernel_rfl
  case hQ_474 => exact fun _ _ _ h => h
  case hy_474 =>
    refine Or.inl ⟨by rfl, ?_⟩
    intro W hSw
    obtain ⟨q6x, q6y, q7x, q7y⟩ := hSw
    go_simp
    try with_reducible rfl
  try simp only [Act.put, List.setIfInBounds_toArray, List.set_cons_zero, List.set_cons_succ]
  refine wpAnyH_ready (rs := [2]) (by kernel_rfl) (by simp) ?_
  refine AllReadyH.cons (o := ?oi_475) ?hi_475 (fun K hK => ?_) AllReadyH.nil
  case hi_475 => simp only [List.getElem?_toArray, List.getElem?_cons_zero, List.getElem?_cons_succ]; try rfl
  go_simp
  (go_at_call 35
   with_reducible refine (E0.out _ HD.out).mono ?_
   rintro e w1 ⟨rfl, hb1⟩
   have HB1 : Hid (Below w.heap.size w w1) := Lib.hid (HD.out.trans (hb1.mono HD.out.size))
   clear hb1)
  refine hK.out _ _ ⟨(HX.out.below HB1.out HX.out.lt).cell 6, (HY.out.below HB1.out HY.out.lt).cell 6, (HX.out.below HB1.out HX.out.lt).cell 7, (HY.out.below HB1.out HY.out.lt).cell 7⟩ (fun hHeld => ?_)
  clear hK K
  try simp only [Act.put, List.setIfInBounds_toArray, List.set_cons_zero, List.set_cons_succ]
  refine wpAnyH_take (i := 3) (oi := ?oi_476) (v := ?_) ?hi_476 (by kernel_rfl) ?hf_476 (by kernel_rfl) ?hQ_476 ?hy_476 (by assumption) ?_
  case hi_476 => simp only [List.getElem?_toArray, List.getElem?_cons_zero, List.getElem?_cons_succ]; try rfl
  case hf_476 => kernel_rfl
  case hQ_476 => exact fun _ _ _ h => h
  case hy_476 =>
    refine Or.inl ⟨by rfl, ?_⟩
    intro W hSw
    obtain ⟨q6x, q6y, q7x, q7y⟩ := hSw
    go_simp
    try with_reducible rfl
  try simp only [Act.put, List.setIfInBounds_toArray, List.set_cons_zero, List.set_cons_succ]
  refine wpAnyH_take (i := 4) (oi := ?oi_477) (v := ?_) ?hi_477 (by kernel_rfl) ?hf_477 (by kernel_rfl) ?hQ_477 ?hy_477 (by assumption) ?_
  case hi_477 => simp only [List.getElem?_toArray, List.getElem?_cons_zero, List.getElem?_cons_succ]; try rfl
  case hf_477 => kernel_rfl
  case hQ_477 => exact fun _ _ _ h => h
  case hy_477 =>
    refine Or.inl ⟨by rfl, ?_⟩
    intro W hSw
    obtain ⟨q6x, q6y, q7x, q7y⟩ := hSw
    go_simp
    try with_reducible rfl
  try simp only [Act.put, List.setIfInBounds_toArray, List.set_cons_zero, List.set_cons_succ]
  refine wpAnyH_take (i := 5) (oi := ?oi_478) (v := ?_) ?hi_478 (by kernel_rfl) ?hf_478 (by kernel_rfl) ?hQ_478 ?hy_478 (by assumption) ?_
  case hi_478 => simp only [List.getElem?_toArray, List.getElem?_cons_zero, List.getElem?_cons_succ]; try rfl
  case hf_478 => kernel_rfl
  case hQ_478 => exact fun _ _ _ h => h
  case hy_478 =>
    refine Or.inl ⟨by rfl, ?_⟩
    intro W hSw
    obtain ⟨q6x, q6y, q7x, q7y⟩ := hSw
    go_simp
    try with_reducible rfl
  try simp only [Act.put, List.setIfInBounds_toArray, List.set_cons_zero, List.set_cons_succ]
  refine wpAnyH_ready (rs := [6]) (by kernel_rfl) (by simp) ?_
  refine AllReadyH.cons (o := ?oi_479) ?hi_479 (fun K hK => ?_) AllReadyH.nil
  case hi_479 => simp only [List.getElem?_toArray, List.getElem?_cons_zero, List.getElem?_cons_succ]; try rfl
  go_simp
  (go_at_call 36
   with_reducible refine (E1.out _ HB1.out).mono ?_
   rintro e w2 ⟨rfl, hb2⟩
   have HB2 : Hid (Below w.heap.size w w2) := Lib.hid (HB1.out.trans (hb2.mono HB1.out.size))
   clear hb2)
  refine hK.out _ _ ⟨(HX.out.below HB2.out HX.out.lt).cell 6, (HY.out.below HB2.out HY.out.lt).cell 6, (HX.out.below HB2.out HX.out.lt).cell 7, (HY.out.below HB2.out HY.out.lt).cell 7⟩ (fun hHeld => ?_)
  clear hK K
  try simp only [Act.put, List.setIfInBounds_toArray, List.set_cons_zero, List.set_cons_succ]
  refine wpAnyH_take (i := 7) (oi := ?oi_480) (v := ?_) ?hi_480 (by kernel_rfl) ?hf_480 (by kernel_rfl) ?hQ_480 ?hy_480 (by assumption) ?_
  case hi_480 => simp only [List.getElem?_toArray, List.getElem?_cons_zero, List.getElem?_cons_succ]; try rfl
  case hf_480 => kernel_rfl
  case hQ_480 => exact fun _ _ _ h => h
  case hy_480 =>
    refine Or.inl ⟨by rfl, ?_⟩
    intro W hSw
    obtain ⟨q6x, q6y, q7x, q7y⟩ := hSw
    go_simp
    try with_reducible rfl
  try simp only [Act.put, List.setIfInBounds_toArray, List.set_cons_zero, List.set_cons_succ]
  refine wpAnyH_take (i := 8) (oi := ?oi_481) (v := ?_) ?hi_481 (by kernel_rfl) ?hf_481 (by kernel_rfl) ?hQ_481 ?hy_481 (by assumption) ?_
  case hi_481 => simp only [List.getElem?_toArray, List.getElem?_cons_zero, List.getElem?_cons_succ]; try rfl
  case hf_481 => kernel_rfl
  case hQ_481 => exact fun _ _ _ h => h
  case hy_481 =>
    refine Or.inl ⟨by rfl, ?_⟩
    intro W hSw
    obtain ⟨q6x, q6y, q7x, q7y⟩ := hSw
    go_simp
    try with_reducible rfl
  try simp only [Act.put, List.setIfInBounds_toArray, List.set_cons_zero, List.set_cons_succ]
  refine wpAnyH_take (i := 9) (oi := ?oi_482) (v := ?_) ?hi_482 (by kernel_rfl) ?hf_482 (by kernel_rfl) ?hQ_482 ?hy_482 (by assumption) ?_
  case hi_482 => simp only [List.getElem?_toArray, List.getElem?_cons_zero, List.getElem?_cons_succ]; try rfl
  case hf_482 => kernel_rfl
  case hQ_482 => exact fun _ _ _ h => h
  case hy_482 =>
    refine Or.inl ⟨by rfl, ?_⟩
    intro W hSw
    obtain ⟨q6x, q6y, q7x, q7y⟩ := hSw
    go_simp
    try with_reducible rfl
  try simp only [Act.put, List.setIfInBounds_toArray, List.set_cons_zero, List.set_cons_succ]
  refine wpAnyH_take (i := 10) (oi := ?oi_483) (v := ?_) ?hi_483 (by kernel_rfl) ?hf_483 (by kernel_rfl) ?hQ_483 ?hy_483 (by assumption) ?_
  case hi_483 => simp only [List.getElem?_toArray, List.getElem?_cons_zero, List.getElem?_cons_succ]; try rfl
  case hf_483 => kernel_rfl
  case hQ_483 => exact fun _ _ _ h => h
  case hy_483 =>
    refine Or.inl ⟨by rfl, ?_⟩
    intro W hSw
    obtain ⟨q6x, q6y, q7x, q7y⟩ := hSw
    go_simp
    try with_reducible rfl
  try simp only [Act.put, List.setIfInBounds_toArray, List.set_cons_zero, List.set_cons_succ]
  refine wpAnyH_take (i := 11) (oi := ?oi_484) (v := ?_) ?hi_484 (by kernel_rfl) ?hf_484 (by kernel_rfl) ?hQ_484 ?hy_484 (by assumption) ?_
  case hi_484 => simp only [List.getElem?_toArray, List.getElem?_cons_zero, List.getElem?_cons_succ]; try rfl
  case hf_484 => kernel_rfl
  case hQ_484 => exact fun _ _ _ h => h
  case hy_484 =>
    refine Or.inl ⟨by rfl, ?_⟩
    intro W hSw
    obtain ⟨q6x, q6y, q7x, q7y⟩ := hSw
    go_simp
    try with_reducible rfl
  try simp only [Act.put, List.setIfInBounds_toArray, List.set_cons_zero, List.set_cons_succ]
  refine wpAnyH_take (i := 12) (oi := ?oi_485) (v := ?_) ?hi_485 (by kernel_rfl) ?hf_485 (by kernel_rfl) ?hQ_485 ?hy_485 (by assumption) ?_
  case hi_485 => simp only [List.getElem?_toArray, List.getElem?_cons_zero, List.getElem?_cons_succ]; try rfl
  case hf_485 => kernel_rfl
  case hQ_485 => exact fun _ _ _ h => h
  case hy_485 =>
    refine Or.inl ⟨by rfl, ?_⟩
    intro W hSw
    obtain ⟨q6x, q6y, q7x, q7y⟩ := hSw
    go_simp
    try with_reducible rfl
  try simp only [Act.put, List.setIfInBounds_toArray, List.set_cons_zero, List.set_cons_succ]
  refine wpAnyH_take (i := 13) (oi := ?oi_486) (v := ?_) ?hi_486 (by kernel_rfl) ?hf_486 (by kernel_rfl) ?hQ_486 ?hy_486 (by assumption) ?_
  case hi_486 => simp only [List.getElem?_toArray, List.getElem?_cons_zero, List.getElem?_cons_succ]; try rfl
  case hf_486 => kernel_rfl
  case hQ_486 => exact fun _ _ _ h => h
  case hy_486 =>
    refine Or.inl ⟨by rfl, ?_⟩
    intro W hSw
    obtain ⟨q6x, q6y, q7x, q7y⟩ := hSw
    go_simp
    try with_reducible rfl
  try simp only [Act.put, List.setIfInBounds_toArray, List.set_cons_zero, List.set_cons_succ]
  refine wpAnyH_take (i := 14) (oi := ?oi_487) (v := ?_) ?hi_487 (by kernel_rfl) ?hf_487 (by kernel_rfl) ?hQ_487 ?hy_487 (by assumption) ?_
  case hi_487 => simp only [List.getElem?_toArray, List.getElem?_cons_zero, List.getElem?_cons_succ]; try rfl
  case hf_487 => kernel_rfl
  case hQ_487 => exact fun _ _ _ h => h
  case hy_487 =>
    refine Or.inl ⟨by rfl, ?_⟩
    intro W hSw
    obtain ⟨q6x, q6y, q7x, q7y⟩ := hSw
    go_simp
    try with_reducible rfl
  try simp only [Act.put, List.setIfInBounds_toArray, List.set_cons_zero, List.set_cons_succ]
  refine wpAnyH_take (i := 15) (oi := ?oi_488) (v := ?_) ?hi_488 (by kernel_rfl) ?hf_488 (by kernel_rfl) ?hQ_488 ?hy_488 (by assumption) ?_
  case hi_488 => simp only [List.getElem?_toArray, List.getElem?_cons_zero, List.getElem?_cons_succ]; try rfl
  case hf_488 => kernel_rfl
  case hQ_488 => exact fun _ _ _ h => h
  case hy_488 =>
    refine Or.inl ⟨by rfl, ?_⟩
    intro W hSw
    obtain ⟨q6x, q6y, q7x, q7y⟩ := hSw
    go_simp
    try with_reducible rfl
  try simp only [Act.put, List.setIfInBounds_toArray, List.set_cons_zero, List.set_cons_succ]
  refine wpAnyH_take (i := 16) (oi := ?oi_489) (v := ?_) ?hi_489 (by kernel_rfl) ?hf_489 (by kernel_rfl) ?hQ_489 ?hy_489 (by assumption) ?_
  case hi_489 => simp only [List.getElem?_toArray, List.getElem?_cons_zero, List.getElem?_cons_succ]; try rfl
  case hf_489 => kernel_rfl
  case hQ_489 => exact fun _ _ _ h => h
  case hy_489 =>
    refine Or.inl ⟨by rfl, ?_⟩
    intro W hSw
    obtain ⟨q6x, q6y, q7x, q7y⟩ := hSw
    go_simp
    try with_reducible rfl
  try simp only [Act.put, List.setIfInBounds_toArray, List.set_cons_zero, List.set_cons_succ]
  refine wpAnyH_ready (rs := [17]) (by kernel_rfl) (by simp) ?_
  refine AllReadyH.cons (o := ?oi_490) ?hi_490 (fun K hK => ?_) AllReadyH.nil
  case hi_490 => simp only [List.getElem?_toArray, List.getElem?_cons_zero, List.getElem?_cons_succ]; try rfl
  go_simp
  (go_at_call 37
   with_reducible refine (E2.out _ HB2.out).mono ?_
   rintro e w3 ⟨rfl, hb3⟩
   have HB3 : Hid (Below w.heap.size w w3) := Lib.hid (HB2.out.trans (hb3.mono HB2.out.size))
   clear hb3)
  refine hK.out _ _ ⟨(HX.out.below HB3.out HX.out.lt).cell 6, (HY.out.below HB3.out HY.out.lt).cell 6, (HX.out.below HB3.out HX.out.lt).cell 7, (HY.out.below HB3.out HY.out.lt).cell 7⟩ (fun hHeld => ?_)
  clear hK K
  try simp only [Act.put, List.setIfInBounds_toArray, List.set_cons_zero, List.set_cons_succ]
  refine wpAnyH_take (i := 18) (oi := ?oi_491) (v := ?_) ?hi_491 (by kernel_rfl) ?hf_491 (by kernel_rfl) ?hQ_491 ?hy_491 (by assumption) ?_
  case hi_491 => simp only [List.getElem?_toArray, List.getElem?_cons_zero, List.getElem?_cons_succ]; try rfl
  case hf_491 => kernel_rfl
  case hQ_491 => exact fun _ _ _ h => h
  case hy_491 =>
    refine Or.inl ⟨by rfl, ?_⟩
    intro W hSw
    obtain ⟨q6x, q6y, q7x, q7y⟩ := hSw
    go_simp
    try with_reducible rfl
  try simp only [Act.put, List.setIfInBounds_toArray, List.set_cons_zero, List.set_cons_succ]
  refine wpAnyH_take (i := 19) (oi := ?oi_492) (v := ?_) ?hi_492 (by kernel_rfl) ?hf_492 (by kernel_rfl) ?hQ_492 ?hy_492 (by assumption) ?_
  case hi_492 => simp only [List.getElem?_toArray, List.getElem?_cons_zero, List.getElem?_cons_succ]; try rfl
  case hf_492 => kernel_rfl
  case hQ_492 => exact fun _ _ _ h => h
  case hy_492 =>
    refine Or.inl ⟨by rfl, ?_⟩
    intro W hSw
    obtain ⟨q6x, q6y, q7x, q7y⟩ := hSw
    go_simp
    try with_reducible rfl
  try simp only [Act.put, List.setIfInBounds_toArray, List.set_cons_zero, List.set_cons_succ]
  refine wpAnyH_take (i := 20) (oi := ?oi_493) (v := ?_) ?hi_493 (by kernel_rfl) ?hf_493 (by kernel_rfl) ?hQ_493 ?hy_493 (by assumption) ?_
  case hi_493 => simp only [List.getElem?_toArray, List.getElem?_cons_zero, List.getElem?_cons_succ]; try rfl
  case hf_493 => kernel_rfl
  case hQ_493 => exact fun _ _ _ h => h
  case hy_493 =>
    refine Or.inl ⟨by rfl, ?_⟩
    intro W hSw
    obtain ⟨q6x, q6y, q7x, q7y⟩ := hSw
    go_simp
    try with_reducible rfl
  try simp only [Act.put, List.setIfInBounds_toArray, List.set_cons_zero, List.set_cons_succ]
  refine wpAnyH_take (i := 21) (oi := ?oi_494) (v := ?_) ?hi_494 (by kernel_rfl) ?hf_494 (by kernel_rfl) ?hQ_494 ?hy_494 (by assumption) ?_
  case hi_494 => simp only [List.getElem?_toArray, List.getElem?_cons_zero, List.getElem?_cons_succ]; try rfl
  case hf_494 => kernel_rfl
  case hQ_494 => exact fun _ _ _ h => h
  case hy_494 =>
    refine Or.inl ⟨by rfl, ?_⟩
    intro W hSw
    obtain ⟨q6x, q6y, q7x, q7y⟩ := hSw
    go_simp
    try with_reducible rfl
  try simp only [Act.put, List.setIfInBounds_toArray, List.set_cons_zero, List.set_cons_succ]
  refine wpAnyH_take (i := 22) (oi := ?oi_495) (v := ?_) ?hi_495 (by kernel_rfl) ?hf_495 (by kernel_rfl) ?hQ_495 ?hy_495 (by assumption) ?_
  case hi_495 => simp only [List.getElem?_toArray, List.getElem?_cons_zero, List.getElem?_cons_succ]; try rfl
  case hf_495 => kernel_rfl
  case hQ_495 => exact fun _ _ _ h => h
  case hy_495 =>
    refine Or.inl ⟨by rfl, ?_⟩
    intro W hSw
    obtain ⟨q6x, q6y, q7x, q7y⟩ := hSw
    go_simp
    try with_reducible rfl
  try simp only [Act.put, List.setIfInBounds_toArray, List.set_cons_zero, List.set_cons_succ]
  refine wpAnyH_take (i := 23) (oi := ?oi_496) (v := ?_) ?hi_496 (by kernel_rfl) ?hf_496 (by kernel_rfl) ?hQ_496 ?hy_496 (by assumption) ?_
  case hi_496 => simp only [List.getElem?_toArray, List.getElem?_cons_zero, List.getElem?_cons_succ]; try rfl
  case hf_496 => kernel_rfl
  case hQ_496 => exact fun _ _ _ h => h
  case hy_496 =>
    refine Or.inl ⟨by rfl, ?_⟩
    intro W hSw
    obtain ⟨q6x, q6y, q7x, q7y⟩ := hSw
    go_simp
    try with_reducible rfl
  try simp only [Act.put, List.setIfInBounds_toArray, List.set_cons_zero, List.set_cons_succ]
  refine wpAnyH_take (i := 24) (oi := ?oi_497) (v := ?_) ?hi_497 (by kernel_rfl) ?hf_497 (by kernel_rfl) ?hQ_497 ?hy_497 (by assumption) ?_
  case hi_497 => simp only [List.getElem?_toArray, List.getElem?_cons_zero, List.getElem?_cons_succ]; try rfl
  case hf_497 => kernel_rfl
  case hQ_497 => exact fun _ _ _ h => h
  case hy_497 =>
    refine Or.inl ⟨by rfl, ?_⟩
    intro W hSw
    obtain ⟨q6x, q6y, q7x, q7y⟩ := hSw
    go_simp
    try with_reducible rfl
  try simp only [Act.put, List.setIfInBounds_toArray, List.set_cons_zero, List.set_cons_succ]
  refine wpAnyH_take (i := 25) (oi := ?oi_498) (v := ?_) ?hi_498 (by kernel_rfl) ?hf_498 (by kernel_rfl) ?hQ_498 ?hy_498 (by assumption) ?_
  case hi_498 => simp only [List.getElem?_toArray, List.getElem?_cons_zero, List.getElem?_cons_succ]; try rfl
  case hf_498 => kernel_rfl
  case hQ_498 => exact fun _ _ _ h => h
  case hy_498 =>
    refine Or.inl ⟨by rfl, ?_⟩
    intro W hSw
    obtain ⟨q6x, q6y, q7x, q7y⟩ := hSw
    go_simp
    try with_reducible rfl
  try simp only [Act.put, List.setIfInBounds_toArray, List.set_cons_zero, List.set_cons_succ]
  refine wpAnyH_take (i := 26) (oi := ?oi_499) (v := ?_) ?hi_499 (by kernel_rfl) ?hf_499 (by kernel_rfl) ?hQ_499 ?hy_499 (by assumption) ?_
  case hi_499 => simp only [List.getElem?_toArray, List.getElem?_cons_zero, List.getElem?_cons_succ]; try rfl
  case hf_499 => kernel_rfl
  case hQ_499 => exact fun _ _ _ h => h
  case hy_499 =>
    refine Or.inl ⟨by rfl, ?_⟩
    intro W hSw
    obtain ⟨q6x, q6y, q7x, q7y⟩ := hSw
    go_simp
    try with_reducible rfl
  try simp only [Act.put, List.setIfInBounds_toArray, List.set_cons_zero, List.set_cons_succ]
  refine wpAnyH_take (i := 27) (oi := ?oi_500) (v := ?_) ?hi_500 (by kernel_rfl) ?hf_500 (by kernel_rfl) ?hQ_500 ?hy_500 (by assumption) ?_
  case hi_500 => simp only [List.getElem?_toArray, List.getElem?_cons_zero, List.getElem?_cons_succ]; try rfl
  case hf_500 => kernel_rfl
  case hQ_500 => exact fun _ _ _ h => h
  case hy_500 =>
    refine Or.inl ⟨by rfl, ?_⟩
    intro W hSw
    obtain ⟨q6x, q6y, q7x, q7y⟩ := hSw
    go_simp
    try with_reducible rfl
  try simp only [Act.put, List.setIfInBounds_toArray, List.set_cons_zero, List.set_cons_succ]
  refine wpAnyH_take (i := 28) (oi := ?oi_501) (v := ?_) ?hi_501 (by kernel_rfl) ?hf_501 (by kernel_rfl) ?hQ_501 ?hy_501 (by assumption) ?_
  case hi_501 => simp only [List.getElem?_toArray, List.getElem?_cons_zero, List.getElem?_cons_succ]; try rfl
  case hf_501 => kernel_rfl
  case hQ_501 => exact fun _ _ _ h => h
  case hy_501 =>
    refine Or.inl ⟨by rfl, ?_⟩
    intro W hSw
    obtain ⟨q6x, q6y, q7x, q7y⟩ := hSw
    go_simp
    try with_reducible rfl
  try simp only [Act.put, List.setIfInBounds_toArray, List.set_cons_zero, List.set_cons_succ]
  refine wpAnyH_take (i := 29) (oi := ?oi_502) (v := ?_) ?hi_502 (by kernel_rfl) ?hf_502 (by kernel_rfl) ?hQ_502 ?hy_502 (by assumption) ?_
  case hi_502 => simp only [List.getElem?_toArray, List.getElem?_cons_zero, List.getElem?_cons_succ]; try rfl
  case hf_502 => kernel_rfl
  case hQ_502 => exact fun _ _ _ h => h
  case hy_502 =>
    refine Or.inl ⟨by rfl, ?_⟩
    intro W hSw
    obtain ⟨q6x, q6y, q7x, q7y⟩ := hSw
    go_simp
    try with_reducible rfl
  try simp only [Act.put, List.setIfInBounds_toArray, List.set_cons_zero, List.set_cons_succ]
  refine wpAnyH_take (i := 30) (oi := ?oi_503) (v := ?_) ?hi_503 (by kernel_rfl) ?hf_503 (by kernel_rfl) ?hQ_503 ?hy_503 (by assumption) ?_
  case hi_503 => simp only [List.getElem?_toArray, List.getElem?_cons_zero, List.getElem?_cons_succ]; try rfl
  case hf_503 => kernel_rfl
  case hQ_503 => exact fun _ _ _ h => h
  case hy_503 =>
    refine Or.inl ⟨by rfl, ?_⟩
    intro W hSw
    obtain ⟨q6x, q6y, q7x, q7y⟩ := hSw
    go_simp
    try with_reducible rfl
  try simp only [Act.put, List.setIfInBounds_toArray, List.set_cons_zero, List.set_cons_succ]
  refine wpAnyH_done (by kernel_rfl) ?_ _
  clear hHeld
  go_wp2
  go_ret
  refine ⟨?_, HB3.out⟩
  congr 2
end Go.Proofs.Ytackompihengfaa
