/-
  module.sameFuncs, sameStore, Same over what their callees answer.
-/
import Derived.Test.YtackompihengfaaWJe
import Derived.Deep.RegionWith
namespace Go.Proofs.Ytackompihengfaa
open Go.RowKit Go.PlainAid
set_option linter.unusedVariables false
set_option linter.unusedSimpArgs false
set_option maxHeartbeats 4000000 in
set_option maxRecDepth 100000 in
theorem sameFuncs0 (gx : Nat) (tabx startx : Int) (xA0 : Option Addr) (xn0 xc0 : Nat) (xA1 : Option Addr) (xn1 xc1 : Nat) (xA2 : Option Addr) (xn2 xc2 : Nat) (xA4 : Option Addr) (xn4 xc4 : Nat) (xA5 : Option Addr) (xn5 xc5 : Nat) (xA6 : Option Addr) (xn6 xc6 : Nat) (xA8 : Option Addr) (xn8 xc8 : Nat) (xA9 : Option Addr) (xn9 xc9 : Nat) (gy : Nat) (taby starty : Int) (yA0 : Option Addr) (yn0 yc0 : Nat) (yA1 : Option Addr) (yn1 yc1 : Nat) (yA2 : Option Addr) (yn2 yc2 : Nat) (yA4 : Option Addr) (yn4 yc4 : Nat) (yA5 : Option Addr) (yn5 yc5 : Nat) (yA6 : Option Addr) (yn6 yc6 : Nat) (yA8 : Option Addr) (yn8 yc8 : Nat) (yA9 : Option Addr) (yn9 yc9 : Nat) (r0 r1 r2 : Bool) (w : World) (hx : Blk w gx 73 #[.slice xA0 xn0 xc0, .slice xA1 xn1 xc1, .slice xA2 xn2 xc2, .int .i64 tabx, .slice xA4 xn4 xc4, .slice xA5 xn5 xc5, .slice xA6 xn6 xc6, .int .i64 startx, .slice xA8 xn8 xc8, .slice xA9 xn9 xc9]) (hy : Blk w gy 73 #[.slice yA0 yn0 yc0, .slice yA1 yn1 yc1, .slice yA2 yn2 yc2, .int .i64 taby, .slice yA4 yn4 yc4, .slice yA5 yn5 yc5, .slice yA6 yn6 yc6, .int .i64 starty, .slice yA8 yn8 yc8, .slice yA9 yn9 yc9])
    (e0 : ∀ W, Below w.heap.size w W → Calls Try.prog 51 #[.slice xA0 xn0 xc0, .slice yA0 yn0 yc0, .func (.func 17) #[] #[]] W fun e w' => e = .returned (.bool r0) ∧ Below W.heap.size W w')
    (e1 : ∀ W, Below w.heap.size w W → Calls Try.prog 52 #[.slice xA1 xn1 xc1, .slice yA1 yn1 yc1] W fun e w' => e = .returned (.bool r1) ∧ Below W.heap.size W w')
    (e2 : ∀ W, Below w.heap.size w W → Calls Try.prog 53 #[.slice xA2 xn2 xc2, .slice yA2 yn2 yc2, .func (.func 50) #[] #[]] W fun e w' => e = .returned (.bool r2) ∧ Below W.heap.size W w') :
    Calls Try.prog 35 #[.pointer (some ⟨gx, 0, none⟩), .pointer (some ⟨gy, 0, none⟩)] w fun e w' => e = .returned (.bool (r0 && r1 && r2)) ∧ Below w.heap.size w w' := by
  have E0 := Lib.hid e0
  have E1 := Lib.hid e1
  have E2 := Lib.hid e2
  have HX := Lib.hid hx
  have HY := Lib.hid hy
  have HB0 : Hid (Below w.heap.size w w) := Lib.hid (Below.refl _ _)
  clear e0 e1 e2 hx hy
  have x0_0 : w.drew.cell? ⟨gx, 0, none⟩ = some (.slice xA0 xn0 xc0) := HX.out.cell 0
  have y0_0 : w.drew.cell? ⟨gy, 0, none⟩ = some (.slice yA0 yn0 yc0) := HY.out.cell 0
  have HD : Hid (Below w.heap.size w w.drew) := Lib.hid ((Below.refl _ _).drew)
  cases r0 with
  | false =>
    simp only [Bool.false_and]
    go_enter Try.func35, Try.ntmps35
    go_wp2_with fail
    refine wp_region_held_drew (S := (fun W => W.cell? ⟨gx, 0, none⟩ = some (.slice xA0 xn0 xc0) ∧ W.cell? ⟨gy, 0, none⟩ = some (.slice yA0 yn0 yc0) ∧ W.cell? ⟨gx, 1, none⟩ = some (.slice xA1 xn1 xc1) ∧ W.cell? ⟨gy, 1, none⟩ = some (.slice yA1 yn1 yc1) ∧ W.cell? ⟨gx, 2, none⟩ = some (.slice xA2 xn2 xc2) ∧ W.cell? ⟨gy, 2, none⟩ = some (.slice yA2 yn2 yc2))) (by kernel_rfl) ⟨HX.out.cell 0, HY.out.cell 0, HX.out.cell 1, HY.out.cell 1, HX.out.cell 2, HY.out.cell 2⟩ (fun hHeld => ?_)
    refine wpAnyH_take (i := 0) (oi := ?oi_1) (v := ?_) ?hi_1 (by kernel_rfl) ?hf_1 (by kernel_rfl) ?hQ_1 ?hy_1 (by assumption) ?_
    case hi_1 => simp only [List.getElem?_toArray, List.getElem?_cons_zero, List.getElem?_cons_succ]; try rfl
    case hf_1 => kernel_rfl
    case hQ_1 => exact fun _ _ _ h => h
    case hy_1 =>
      refine Or.inl ⟨by rfl, ?_⟩
      intro W hSw
      obtain ⟨q0x, q0y, q1x, q1y, q2x, q2y⟩ := hSw
      go_simp
      try with_reducible rfl
    try simp only [Act.put, List.setIfInBounds_toArray, List.set_cons_zero, List.set_cons_succ]
    refine wpAnyH_take (i := 1) (oi := ?oi_2) (v := ?_) ?hi_2 (by kernel_rfl) ?hf_2 (by kernel_rfl) ?hQ_2 ?hy_2 (by assumption) ?_
    case hi_2 => simp only [List.getElem?_toArray, List.getElem?_cons_zero, List.getElem?_cons_succ]; try rfl
    case hf_2 => kernel_rfl
    case hQ_2 => exact fun _ _ _ h => h
    case hy_2 =>
      refine Or.inl ⟨by rfl, ?_⟩
      intro W hSw
      obtain ⟨q0x, q0y, q1x, q1y, q2x, q2y⟩ := hSw
      go_simp
      try with_reducible rfl
    try simp only [Act.put, List.setIfInBounds_toArray, List.set_cons_zero, List.set_cons_succ]
    refine wpAnyH_take (i := 2) (oi := ?oi_3) (v := ?_) ?hi_3 (by kernel_rfl) ?hf_3 (by kernel_rfl) ?hQ_3 ?hy_3 (by assumption) ?_
    case hi_3 => simp only [List.getElem?_toArray, List.getElem?_cons_zero, List.getElem?_cons_succ]; try rfl
    case hf_3 => kernel_rfl
    case hQ_3 => exact fun _ _ _ h => h
    case hy_3 =>
      refine Or.inl ⟨by rfl, ?_⟩
      intro W hSw
      obtain ⟨q0x, q0y, q1x, q1y, q2x, q2y⟩ := hSw
      go_simp
      try with_reducible rfl
    try simp only [Act.put, List.setIfInBounds_toArray, List.set_cons_zero, List.set_cons_succ]
    refine wpAnyH_take (i := 3) (oi := ?oi_4) (v := ?_) ?hi_4 (by kernel_rfl) ?hf_4 (by kernel_rfl) ?hQ_4 ?hy_4 (by assumption) ?_
    case hi_4 => simp only [List.getElem?_toArray, List.getElem?_cons_zero, List.getElem?_cons_succ]; try rfl
    case hf_4 => kernel_rfl
    case hQ_4 => exact fun _ _ _ h => h
    case hy_4 =>
      refine Or.inl ⟨by rfl, ?_⟩
      intro W hSw
      obtain ⟨q0x, q0y, q1x, q1y, q2x, q2y⟩ := hSw
      go_simp
      try with_reducible rfl
    try simp only [Act.put, List.setIfInBounds_toArray, List.set_cons_zero, List.set_cons_succ]
    refine wpAnyH_take (i := 4) (oi := ?oi_5) (v := ?_) ?hi_5 (by kernel_rfl) ?hf_5 (by kernel_rfl) ?hQ_5 ?hy_5 (by assumption) ?_
    case hi_5 => simp only [List.getElem?_toArray, List.getElem?_cons_zero, List.getElem?_cons_succ]; try rfl
    case hf_5 => kernel_rfl
    case hQ_5 => exact fun _ _ _ h => h
    case hy_5 =>
      refine Or.inl ⟨by rfl, ?_⟩
      intro W hSw
      obtain ⟨q0x, q0y, q1x, q1y, q2x, q2y⟩ := hSw
      go_simp
      try with_reducible rfl
    try simp only [Act.put, List.setIfInBounds_toArray, List.set_cons_zero, List.set_cons_succ]
    refine wpAnyH_take (i := 5) (oi := ?oi_6) (v := ?_) ?hi_6 (by kernel_rfl) ?hf_6 (by kernel_rfl) ?hQ_6 ?hy_6 (by assumption) ?_
    case hi_6 => simp only [List.getElem?_toArray, List.getElem?_cons_zero, List.getElem?_cons_succ]; try rfl
    case hf_6 => kernel_rfl
    case hQ_6 => exact fun _ _ _ h => h
    case hy_6 =>
      refine Or.inl ⟨by rfl, ?_⟩
      intro W hSw
      obtain ⟨q0x, q0y, q1x, q1y, q2x, q2y⟩ := hSw
      go_simp
      try with_reducible rfl
    try simp only [Act.put, List.setIfInBounds_toArray, List.set_cons_zero, List.set_cons_succ]
    refine wpAnyH_take (i := 6) (oi := ?oi_7) (v := ?_) ?hi_7 (by kernel_rfl) ?hf_7 (by kernel_rfl) ?hQ_7 ?hy_7 (by assumption) ?_
    case hi_7 => simp only [List.getElem?_toArray, List.getElem?_cons_zero, List.getElem?_cons_succ]; try rfl
    case hf_7 => kernel_rfl
    case hQ_7 => exact fun _ _ _ h => h
    case hy_7 =>
      refine Or.inl ⟨by rfl, ?_⟩
      intro W hSw
      obtain ⟨q0x, q0y, q1x, q1y, q2x, q2y⟩ := hSw
      go_simp
      try with_reducible rfl
    try simp only [Act.put, List.setIfInBounds_toArray, List.set_cons_zero, List.set_cons_succ]
    refine wpAnyH_take (i := 7) (oi := ?oi_8) (v := ?_) ?hi_8 (by kernel_rfl) ?hf_8 (by kernel_rfl) ?hQ_8 ?hy_8 (by assumption) ?_
    case hi_8 => simp only [List.getElem?_toArray, List.getElem?_cons_zero, List.getElem?_cons_succ]; try rfl
    case hf_8 => kernel_rfl
    case hQ_8 => exact fun _ _ _ h => h
    case hy_8 =>
      refine Or.inl ⟨by rfl, ?_⟩
      intro W hSw
      obtain ⟨q0x, q0y, q1x, q1y, q2x, q2y⟩ := hSw
      go_simp
      try with_reducible rfl
    try simp only [Act.put, List.setIfInBounds_toArray, List.set_cons_zero, List.set_cons_succ]
    refine wpAnyH_ready (rs := [8]) (by kernel_rfl) (by simp) ?_
    refine AllReadyH.cons (o := ?oi_9) ?hi_9 (fun K hK => ?_) AllReadyH.nil
    case hi_9 => simp only [List.getElem?_toArray, List.getElem?_cons_zero, List.getElem?_cons_succ]; try rfl
    go_simp
    (go_at_call 51
     with_reducible refine (E0.out _ HD.out).mono ?_
     rintro e w1 ⟨rfl, hb1⟩
     have HB1 : Hid (Below w.heap.size w w1) := Lib.hid (HD.out.trans (hb1.mono HD.out.size))
     clear hb1)
    refine hK.out _ _ ⟨(HX.out.below HB1.out HX.out.lt).cell 0, (HY.out.below HB1.out HY.out.lt).cell 0, (HX.out.below HB1.out HX.out.lt).cell 1, (HY.out.below HB1.out HY.out.lt).cell 1, (HX.out.below HB1.out HX.out.lt).cell 2, (HY.out.below HB1.out HY.out.lt).cell 2⟩ (fun hHeld => ?_)
    clear hK K
    try simp only [Act.put, List.setIfInBounds_toArray, List.set_cons_zero, List.set_cons_succ]
    refine wpAnyH_take (i := 9) (oi := ?oi_10) (v := ?_) ?hi_10 (by kernel_rfl) ?hf_10 (by kernel_rfl) ?hQ_10 ?hy_10 (by assumption) ?_
    case hi_10 => simp only [List.getElem?_toArray, List.getElem?_cons_zero, List.getElem?_cons_succ]; try rfl
    case hf_10 => kernel_rfl
    case hQ_10 => exact fun _ _ _ h => h
    case hy_10 =>
      refine Or.inl ⟨by rfl, ?_⟩
      intro W hSw
      obtain ⟨q0x, q0y, q1x, q1y, q2x, q2y⟩ := hSw
      go_simp
      try with_reducible rfl
    try simp only [Act.put, List.setIfInBounds_toArray, List.set_cons_zero, List.set_cons_succ]
    refine wpAnyH_take (i := 10) (oi := ?oi_11) (v := undef) ?hi_11 (by kernel_rfl) ?hf_11 (by kernel_rfl) ?hQ_11 ?hy_11 (by assumption) ?_
    case hi_11 => simp only [List.getElem?_toArray, List.getElem?_cons_zero, List.getElem?_cons_succ]; try rfl
    case hf_11 => kernel_rfl
    case hQ_11 => exact fun _ _ _ h => h
    case hy_11 => exact Or.inr ⟨by rfl, rfl⟩
    try simp only [Act.put, List.setIfInBounds_toArray, List.set_cons_zero, List.set_cons_succ]
    refine wpAnyH_take (i := 11) (oi := ?oi_12) (v := undef) ?hi_12 (by kernel_rfl) ?hf_12 (by kernel_rfl) ?hQ_12 ?hy_12 (by assumption) ?_
    case hi_12 => simp only [List.getElem?_toArray, List.getElem?_cons_zero, List.getElem?_cons_succ]; try rfl
    case hf_12 => kernel_rfl
    case hQ_12 => exact fun _ _ _ h => h
    case hy_12 => exact Or.inr ⟨by rfl, rfl⟩
    try simp only [Act.put, List.setIfInBounds_toArray, List.set_cons_zero, List.set_cons_succ]
    refine wpAnyH_take (i := 12) (oi := ?oi_13) (v := undef) ?hi_13 (by kernel_rfl) ?hf_13 (by kernel_rfl) ?hQ_13 ?hy_13 (by assumption) ?_
    case hi_13 => simp only [List.getElem?_toArray, List.getElem?_cons_zero, List.getElem?_cons_succ]; try rfl
    case hf_13 => kernel_rfl
    case hQ_13 => exact fun _ _ _ h => h
    case hy_13 => exact Or.inr ⟨by rfl, rfl⟩
    try simp only [Act.put, List.setIfInBounds_toArray, List.set_cons_zero, List.set_cons_succ]
    refine wpAnyH_take (i := 13) (oi := ?oi_14) (v := undef) ?hi_14 (by kernel_rfl) ?hf_14 (by kernel_rfl) ?hQ_14 ?hy_14 (by assumption) ?_
    case hi_14 => simp only [List.getElem?_toArray, List.getElem?_cons_zero, List.getElem?_cons_succ]; try rfl
    case hf_14 => kernel_rfl
    case hQ_14 => exact fun _ _ _ h => h
    case hy_14 => exact Or.inr ⟨by rfl, rfl⟩
    try simp only [Act.put, List.setIfInBounds_toArray, List.set_cons_zero, List.set_cons_succ]
    refine wpAnyH_take (i := 14) (oi := ?oi_15) (v := undef) ?hi_15 (by kernel_rfl) ?hf_15 (by kernel_rfl) ?hQ_15 ?hy_15 (by assumption) ?_
    case hi_15 => simp only [List.getElem?_toArray, List.getElem?_cons_zero, List.getElem?_cons_succ]; try rfl
    case hf_15 => kernel_rfl
    case hQ_15 => exact fun _ _ _ h => h
    case hy_15 => exact Or.inr ⟨by rfl, rfl⟩
    try simp only [Act.put, List.setIfInBounds_toArray, List.set_cons_zero, List.set_cons_succ]
    refine wpAnyH_take (i := 15) (oi := ?oi_16) (v := undef) ?hi_16 (by kernel_rfl) ?hf_16 (by kernel_rfl) ?hQ_16 ?hy_16 (by assumption) ?_
    case hi_16 => simp only [List.getElem?_toArray, List.getElem?_cons_zero, List.getElem?_cons_succ]; try rfl
    case hf_16 => kernel_rfl
    case hQ_16 => exact fun _ _ _ h => h
    case hy_16 => exact Or.inr ⟨by rfl, rfl⟩
    try simp only [Act.put, List.setIfInBounds_toArray, List.set_cons_zero, List.set_cons_succ]
    refine wpAnyH_take (i := 16) (oi := ?oi_17) (v := undef) ?hi_17 (by kernel_rfl) ?hf_17 (by kernel_rfl) ?hQ_17 ?hy_17 (by assumption) ?_
    case hi_17 => simp only [List.getElem?_toArray, List.getElem?_cons_zero, List.getElem?_cons_succ]; try rfl
    case hf_17 => kernel_rfl
    case hQ_17 => exact fun _ _ _ h => h
    case hy_17 => exact Or.inr ⟨by rfl, rfl⟩
    try simp only [Act.put, List.setIfInBounds_toArray, List.set_cons_zero, List.set_cons_succ]
    refine wpAnyH_take (i := 17) (oi := ?oi_18) (v := undef) ?hi_18 (by kernel_rfl) ?hf_18 (by kernel_rfl) ?hQ_18 ?hy_18 (by assumption) ?_
    case hi_18 => simp only [List.getElem?_toArray, List.getElem?_cons_zero, List.getElem?_cons_succ]; try rfl
    case hf_18 => kernel_rfl
    case hQ_18 => exact fun _ _ _ h => h
    case hy_18 => exact Or.inr ⟨by rfl, rfl⟩
    try simp only [Act.put, List.setIfInBounds_toArray, List.set_cons_zero, List.set_cons_succ]
    refine wpAnyH_take (i := 18) (oi := ?oi_19) (v := undef) ?hi_19 (by kernel_rfl) ?hf_19 (by kernel_rfl) ?hQ_19 ?hy_19 (by assumption) ?_
    case hi_19 => simp only [List.getElem?_toArray, List.getElem?_cons_zero, List.getElem?_cons_succ]; try rfl
    case hf_19 => kernel_rfl
    case hQ_19 => exact fun _ _ _ h => h
    case hy_19 => exact Or.inr ⟨by rfl, rfl⟩
    try simp only [Act.put, List.setIfInBounds_toArray, List.set_cons_zero, List.set_cons_succ]
    refine wpAnyH_take (i := 19) (oi := ?oi_20) (v := ?_) ?hi_20 (by kernel_rfl) ?hf_20 (by kernel_rfl) ?hQ_20 ?hy_20 (by assumption) ?_
    case hi_20 => simp only [List.getElem?_toArray, List.getElem?_cons_zero, List.getElem?_cons_succ]; try rfl
    case hf_20 => kernel_rfl
    case hQ_20 => exact fun _ _ _ h => h
    case hy_20 =>
      refine Or.inl ⟨by rfl, ?_⟩
      intro W hSw
      obtain ⟨q0x, q0y, q1x, q1y, q2x, q2y⟩ := hSw
      go_simp
      try with_reducible rfl
    try simp only [Act.put, List.setIfInBounds_toArray, List.set_cons_zero, List.set_cons_succ]
    refine wpAnyH_take (i := 20) (oi := ?oi_21) (v := ?_) ?hi_21 (by kernel_rfl) ?hf_21 (by kernel_rfl) ?hQ_21 ?hy_21 (by assumption) ?_
    case hi_21 => simp only [List.getElem?_toArray, List.getElem?_cons_zero, List.getElem?_cons_succ]; try rfl
    case hf_21 => kernel_rfl
    case hQ_21 => exact fun _ _ _ h => h
    case hy_21 =>
      refine Or.inl ⟨by rfl, ?_⟩
      intro W hSw
      obtain ⟨q0x, q0y, q1x, q1y, q2x, q2y⟩ := hSw
      go_simp
      try with_reducible rfl
    try simp only [Act.put, List.setIfInBounds_toArray, List.set_cons_zero, List.set_cons_succ]
    refine wpAnyH_take (i := 21) (oi := ?oi_22) (v := undef) ?hi_22 (by kernel_rfl) ?hf_22 (by kernel_rfl) ?hQ_22 ?hy_22 (by assumption) ?_
    case hi_22 => simp only [List.getElem?_toArray, List.getElem?_cons_zero, List.getElem?_cons_succ]; try rfl
    case hf_22 => kernel_rfl
    case hQ_22 => exact fun _ _ _ h => h
    case hy_22 => exact Or.inr ⟨by rfl, rfl⟩
    try simp only [Act.put, List.setIfInBounds_toArray, List.set_cons_zero, List.set_cons_succ]
    refine wpAnyH_take (i := 22) (oi := ?oi_23) (v := undef) ?hi_23 (by kernel_rfl) ?hf_23 (by kernel_rfl) ?hQ_23 ?hy_23 (by assumption) ?_
    case hi_23 => simp only [List.getElem?_toArray, List.getElem?_cons_zero, List.getElem?_cons_succ]; try rfl
    case hf_23 => kernel_rfl
    case hQ_23 => exact fun _ _ _ h => h
    case hy_23 => exact Or.inr ⟨by rfl, rfl⟩
    try simp only [Act.put, List.setIfInBounds_toArray, List.set_cons_zero, List.set_cons_succ]
    refine wpAnyH_take (i := 23) (oi := ?oi_24) (v := undef) ?hi_24 (by kernel_rfl) ?hf_24 (by kernel_rfl) ?hQ_24 ?hy_24 (by assumption) ?_
    case hi_24 => simp only [List.getElem?_toArray, List.getElem?_cons_zero, List.getElem?_cons_succ]; try rfl
    case hf_24 => kernel_rfl
    case hQ_24 => exact fun _ _ _ h => h
    case hy_24 => exact Or.inr ⟨by rfl, rfl⟩
    try simp only [Act.put, List.setIfInBounds_toArray, List.set_cons_zero, List.set_cons_succ]
    refine wpAnyH_take (i := 24) (oi := ?oi_25) (v := undef) ?hi_25 (by kernel_rfl) ?hf_25 (by kernel_rfl) ?hQ_25 ?hy_25 (by assumption) ?_
    case hi_25 => simp only [List.getElem?_toArray, List.getElem?_cons_zero, List.getElem?_cons_succ]; try rfl
    case hf_25 => kernel_rfl
    case hQ_25 => exact fun _ _ _ h => h
    case hy_25 => exact Or.inr ⟨by rfl, rfl⟩
    try simp only [Act.put, List.setIfInBounds_toArray, List.set_cons_zero, List.set_cons_succ]
    refine wpAnyH_take (i := 25) (oi := ?oi_26) (v := undef) ?hi_26 (by kernel_rfl) ?hf_26 (by kernel_rfl) ?hQ_26 ?hy_26 (by assumption) ?_
    case hi_26 => simp only [List.getElem?_toArray, List.getElem?_cons_zero, List.getElem?_cons_succ]; try rfl
    case hf_26 => kernel_rfl
    case hQ_26 => exact fun _ _ _ h => h
    case hy_26 => exact Or.inr ⟨by rfl, rfl⟩
    try simp only [Act.put, List.setIfInBounds_toArray, List.set_cons_zero, List.set_cons_succ]
    refine wpAnyH_take (i := 26) (oi := ?oi_27) (v := undef) ?hi_27 (by kernel_rfl) ?hf_27 (by kernel_rfl) ?hQ_27 ?hy_27 (by assumption) ?_
    case hi_27 => simp only [List.getElem?_toArray, List.getElem?_cons_zero, List.getElem?_cons_succ]; try rfl
    case hf_27 => kernel_rfl
    case hQ_27 => exact fun _ _ _ h => h
    case hy_27 => exact Or.inr ⟨by rfl, rfl⟩
    try simp only [Act.put, List.setIfInBounds_toArray, List.set_cons_zero, List.set_cons_succ]
    refine wpAnyH_take (i := 27) (oi := ?oi_28) (v := undef) ?hi_28 (by kernel_rfl) ?hf_28 (by kernel_rfl) ?hQ_28 ?hy_28 (by assumption) ?_
    case hi_28 => simp only [List.getElem?_toArray, List.getElem?_cons_zero, List.getElem?_cons_succ]; try rfl
    case hf_28 => kernel_rfl
    case hQ_28 => exact fun _ _ _ h => h
    case hy_28 => exact Or.inr ⟨by rfl, rfl⟩
    try simp only [Act.put, List.setIfInBounds_toArray, List.set_cons_zero, List.set_cons_succ]
    refine wpAnyH_take (i := 28) (oi := ?oi_29) (v := undef) ?hi_29 (by kernel_rfl) ?hf_29 (by kernel_rfl) ?hQ_29 ?hy_29 (by assumption) ?_
    case hi_29 => simp only [List.getElem?_toArray, List.getElem?_cons_zero, List.getElem?_cons_succ]; try rfl
    case hf_29 => kernel_rfl
    case hQ_29 => exact fun _ _ _ h => h
    case hy_29 => exact Or.inr ⟨by rfl, rfl⟩
    try simp only [Act.put, List.setIfInBounds_toArray, List.set_cons_zero, List.set_cons_succ]
    refine wpAnyH_take (i := 29) (oi := ?oi_30) (v := undef) ?hi_30 (by kernel_rfl) ?hf_30 (by kernel_rfl) ?hQ_30 ?hy_30 (by assumption) ?_
    case hi_30 => simp only [List.getElem?_toArray, List.getElem?_cons_zero, List.getElem?_cons_succ]; try rfl
    case hf_30 => kernel_rfl
    case hQ_30 => exact fun _ _ _ h => h
    case hy_30 => exact Or.inr ⟨by rfl, rfl⟩
    try simp only [Act.put, List.setIfInBounds_toArray, List.set_cons_zero, List.set_cons_succ]
    refine wpAnyH_take (i := 30) (oi := ?oi_31) (v := undef) ?hi_31 (by kernel_rfl) ?hf_31 (by kernel_rfl) ?hQ_31 ?hy_31 (by assumption) ?_
    case hi_31 => simp only [List.getElem?_toArray, List.getElem?_cons_zero, List.getElem?_cons_succ]; try rfl
    case hf_31 => kernel_rfl
    case hQ_31 => exact fun _ _ _ h => h
    case hy_31 => exact Or.inr ⟨by rfl, rfl⟩
    try simp only [Act.put, List.setIfInBounds_toArray, List.set_cons_zero, List.set_cons_succ]
    refine wpAnyH_take (i := 31) (oi := ?oi_32) (v := ?_) ?hi_32 (by kernel_rfl) ?hf_32 (by kernel_rfl) ?hQ_32 ?hy_32 (by assumption) ?_
    case hi_32 => simp only [List.getElem?_toArray, List.getElem?_cons_zero, List.getElem?_cons_succ]; try rfl
    case hf_32 => kernel_rfl
    case hQ_32 => exact fun _ _ _ h => h
    case hy_32 =>
      refine Or.inl ⟨by rfl, ?_⟩
      intro W hSw
      obtain ⟨q0x, q0y, q1x, q1y, q2x, q2y⟩ := hSw
      go_simp
      try with_reducible rfl
    try simp only [Act.put, List.setIfInBounds_toArray, List.set_cons_zero, List.set_cons_succ]
    refine wpAnyH_take (i := 32) (oi := ?oi_33) (v := ?_) ?hi_33 (by kernel_rfl) ?hf_33 (by kernel_rfl) ?hQ_33 ?hy_33 (by assumption) ?_
    case hi_33 => simp only [List.getElem?_toArray, List.getElem?_cons_zero, List.getElem?_cons_succ]; try rfl
    case hf_33 => kernel_rfl
    case hQ_33 => exact fun _ _ _ h => h
    case hy_33 =>
      refine Or.inl ⟨by rfl, ?_⟩
      intro W hSw
      obtain ⟨q0x, q0y, q1x, q1y, q2x, q2y⟩ := hSw
      go_simp
      try with_reducible rfl
    try simp only [Act.put, List.setIfInBounds_toArray, List.set_cons_zero, List.set_cons_succ]
    refine wpAnyH_done (by kernel_rfl) ?_ _
    clear hHeld
    go_wp2
    go_ret
    exact ⟨rfl, HB1.out⟩
  | true =>
  simp only [Bool.true_and]
  cases r1 with
  | false =>
    simp only [Bool.false_and]
    go_enter Try.func35, Try.ntmps35
    go_wp2_with fail
    refine wp_region_held_drew (S := (fun W => W.cell? ⟨gx, 0, none⟩ = some (.slice xA0 xn0 xc0) ∧ W.cell? ⟨gy, 0, none⟩ = some (.slice yA0 yn0 yc0) ∧ W.cell? ⟨gx, 1, none⟩ = some (.slice xA1 xn1 xc1) ∧ W.cell? ⟨gy, 1, none⟩ = some (.slice yA1 yn1 yc1) ∧ W.cell? ⟨gx, 2, none⟩ = some (.slice xA2 xn2 xc2) ∧ W.cell? ⟨gy, 2, none⟩ = some (.slice yA2 yn2 yc2))) (by kernel_rfl) ⟨HX.out.cell 0, HY.out.cell 0, HX.out.cell 1, HY.out.cell 1, HX.out.cell 2, HY.out.cell 2⟩ (fun hHeld => ?_)
    refine wpAnyH_take (i := 0) (oi := ?oi_34) (v := ?_) ?hi_34 (by kernel_rfl) ?hf_34 (by kernel_rfl) ?hQ_34 ?hy_34 (by assumption) ?_
    case hi_34 => simp only [List.getElem?_toArray, List.getElem?_cons_zero, List.getElem?_cons_succ]; try rfl
    case hf_34 => kernel_rfl
    case hQ_34 => exact fun _ _ _ h => h
    case hy_34 =>
      refine Or.inl ⟨by rfl, ?_⟩
      intro W hSw
      obtain ⟨q0x, q0y, q1x, q1y, q2x, q2y⟩ := hSw
      go_simp
      try with_reducible rfl
    try simp only [Act.put, List.setIfInBounds_toArray, List.set_cons_zero, List.set_cons_succ]
    refine wpAnyH_take (i := 1) (oi := ?oi_35) (v := ?_) ?hi_35 (by kernel_rfl) ?hf_35 (by kernel_rfl) ?hQ_35 ?hy_35 (by assumption) ?_
    case hi_35 => simp only [List.getElem?_toArray, List.getElem?_cons_zero, List.getElem?_cons_succ]; try rfl
    case hf_35 => kernel_rfl
    case hQ_35 => exact fun _ _ _ h => h
    case hy_35 =>
      refine Or.inl ⟨by rfl, ?_⟩
      intro W hSw
      obtain ⟨q0x, q0y, q1x, q1y, q2x, q2y⟩ := hSw
      go_simp
      try with_reducible rfl
    try simp only [Act.put, List.setIfInBounds_toArray, List.set_cons_zero, List.set_cons_succ]
    refine wpAnyH_take (i := 2) (oi := ?oi_36) (v := ?_) ?hi_36 (by kernel_rfl) ?hf_36 (by kernel_rfl) ?hQ_36 ?hy_36 (by assumption) ?_
    case hi_36 => simp only [List.getElem?_toArray, List.getElem?_cons_zero, List.getElem?_cons_succ]; try rfl
    case hf_36 => kernel_rfl
    case hQ_36 => exact fun _ _ _ h => h
    case hy_36 =>
      refine Or.inl ⟨by rfl, ?_⟩
      intro W hSw
      obtain ⟨q0x, q0y, q1x, q1y, q2x, q2y⟩ := hSw
      go_simp
      try with_reducible rfl
    try simp only [Act.put, List.setIfInBounds_toArray, List.set_cons_zero, List.set_cons_succ]
    refine wpAnyH_take (i := 3) (oi := ?oi_37) (v := ?_) ?hi_37 (by kernel_rfl) ?hf_37 (by kernel_rfl) ?hQ_37 ?hy_37 (by assumption) ?_
    case hi_37 => simp only [List.getElem?_toArray, List.getElem?_cons_zero, List.getElem?_cons_succ]; try rfl
    case hf_37 => kernel_rfl
    case hQ_37 => exact fun _ _ _ h => h
    case hy_37 =>
      refine Or.inl ⟨by rfl, ?_⟩
      intro W hSw
      obtain ⟨q0x, q0y, q1x, q1y, q2x, q2y⟩ := hSw
      go_simp
      try with_reducible rfl
    try simp only [Act.put, List.setIfInBounds_toArray, List.set_cons_zero, List.set_cons_succ]
    refine wpAnyH_take (i := 4) (oi := ?oi_38) (v := ?_) ?hi_38 (by kernel_rfl) ?hf_38 (by kernel_rfl) ?hQ_38 ?hy_38 (by assumption) ?_
    case hi_38 => simp only [List.getElem?_toArray, List.getElem?_cons_zero, List.getElem?_cons_succ]; try rfl
    case hf_38 => kernel_rfl
    case hQ_38 => exact fun _ _ _ h => h
    case hy_38 =>
      refine Or.inl ⟨by rfl, ?_⟩
      intro W hSw
      obtain ⟨q0x, q0y, q1x, q1y, q2x, q2y⟩ := hSw
      go_simp
      try with_reducible rfl
    try simp only [Act.put, List.setIfInBounds_toArray, List.set_cons_zero, List.set_cons_succ]
    refine wpAnyH_take (i := 5) (oi := ?oi_39) (v := ?_) ?hi_39 (by kernel_rfl) ?hf_39 (by kernel_rfl) ?hQ_39 ?hy_39 (by assumption) ?_
    case hi_39 => simp only [List.getElem?_toArray, List.getElem?_cons_zero, List.getElem?_cons_succ]; try rfl
    case hf_39 => kernel_rfl
    case hQ_39 => exact fun _ _ _ h => h
    case hy_39 =>
      refine Or.inl ⟨by rfl, ?_⟩
      intro W hSw
      obtain ⟨q0x, q0y, q1x, q1y, q2x, q2y⟩ := hSw
      go_simp
      try with_reducible rfl
    try simp only [Act.put, List.setIfInBounds_toArray, List.set_cons_zero, List.set_cons_succ]
    refine wpAnyH_take (i := 6) (oi := ?oi_40) (v := ?_) ?hi_40 (by kernel_rfl) ?hf_40 (by kernel_rfl) ?hQ_40 ?hy_40 (by assumption) ?_
    case hi_40 => simp only [List.getElem?_toArray, List.getElem?_cons_zero, List.getElem?_cons_succ]; try rfl
    case hf_40 => kernel_rfl
    case hQ_40 => exact fun _ _ _ h => h
    case hy_40 =>
      refine Or.inl ⟨by rfl, ?_⟩
      intro W hSw
      obtain ⟨q0x, q0y, q1x, q1y, q2x, q2y⟩ := hSw
      go_simp
      try with_reducible rfl
    try simp only [Act.put, List.setIfInBounds_toArray, List.set_cons_zero, List.set_cons_succ]
    refine wpAnyH_take (i := 7) (oi := ?oi_41) (v := ?_) ?hi_41 (by kernel_rfl) ?hf_41 (by kernel_rfl) ?hQ_41 ?hy_41 (by assumption) ?_
    case hi_41 => simp only [List.getElem?_toArray, List.getElem?_cons_zero, List.getElem?_cons_succ]; try rfl
    case hf_41 => kernel_rfl
    case hQ_41 => exact fun _ _ _ h => h
    case hy_41 =>
      refine Or.inl ⟨by rfl, ?_⟩
      intro W hSw
      obtain ⟨q0x, q0y, q1x, q1y, q2x, q2y⟩ := hSw
      go_simp
      try with_reducible rfl
    try simp only [Act.put, List.setIfInBounds_toArray, List.set_cons_zero, List.set_cons_succ]
    refine wpAnyH_ready (rs := [8]) (by kernel_rfl) (by simp) ?_
    refine AllReadyH.cons (o := ?oi_42) ?hi_42 (fun K hK => ?_) AllReadyH.nil
    case hi_42 => simp only [List.getElem?_toArray, List.getElem?_cons_zero, List.getElem?_cons_succ]; try rfl
    go_simp
    (go_at_call 51
     with_reducible refine (E0.out _ HD.out).mono ?_
     rintro e w1 ⟨rfl, hb1⟩
     have HB1 : Hid (Below w.heap.size w w1) := Lib.hid (HD.out.trans (hb1.mono HD.out.size))
     clear hb1)
    refine hK.out _ _ ⟨(HX.out.below HB1.out HX.out.lt).cell 0, (HY.out.below HB1.out HY.out.lt).cell 0, (HX.out.below HB1.out HX.out.lt).cell 1, (HY.out.below HB1.out HY.out.lt).cell 1, (HX.out.below HB1.out HX.out.lt).cell 2, (HY.out.below HB1.out HY.out.lt).cell 2⟩ (fun hHeld => ?_)
    clear hK K
    try simp only [Act.put, List.setIfInBounds_toArray, List.set_cons_zero, List.set_cons_succ]
    refine wpAnyH_take (i := 9) (oi := ?oi_43) (v := ?_) ?hi_43 (by kernel_rfl) ?hf_43 (by kernel_rfl) ?hQ_43 ?hy_43 (by assumption) ?_
    case hi_43 => simp only [List.getElem?_toArray, List.getElem?_cons_zero, List.getElem?_cons_succ]; try rfl
    case hf_43 => kernel_rfl
    case hQ_43 => exact fun _ _ _ h => h
    case hy_43 =>
      refine Or.inl ⟨by rfl, ?_⟩
      intro W hSw
      obtain ⟨q0x, q0y, q1x, q1y, q2x, q2y⟩ := hSw
      go_simp
      try with_reducible rfl
    try simp only [Act.put, List.setIfInBounds_toArray, List.set_cons_zero, List.set_cons_succ]
    refine wpAnyH_take (i := 10) (oi := ?oi_44) (v := ?_) ?hi_44 (by kernel_rfl) ?hf_44 (by kernel_rfl) ?hQ_44 ?hy_44 (by assumption) ?_
    case hi_44 => simp only [List.getElem?_toArray, List.getElem?_cons_zero, List.getElem?_cons_succ]; try rfl
    case hf_44 => kernel_rfl
    case hQ_44 => exact fun _ _ _ h => h
    case hy_44 =>
      refine Or.inl ⟨by rfl, ?_⟩
      intro W hSw
      obtain ⟨q0x, q0y, q1x, q1y, q2x, q2y⟩ := hSw
      go_simp
      try with_reducible rfl
    try simp only [Act.put, List.setIfInBounds_toArray, List.set_cons_zero, List.set_cons_succ]
    refine wpAnyH_take (i := 11) (oi := ?oi_45) (v := ?_) ?hi_45 (by kernel_rfl) ?hf_45 (by kernel_rfl) ?hQ_45 ?hy_45 (by assumption) ?_
    case hi_45 => simp only [List.getElem?_toArray, List.getElem?_cons_zero, List.getElem?_cons_succ]; try rfl
    case hf_45 => kernel_rfl
    case hQ_45 => exact fun _ _ _ h => h
    case hy_45 =>
      refine Or.inl ⟨by rfl, ?_⟩
      intro W hSw
      obtain ⟨q0x, q0y, q1x, q1y, q2x, q2y⟩ := hSw
      go_simp
      try with_reducible rfl
    try simp only [Act.put, List.setIfInBounds_toArray, List.set_cons_zero, List.set_cons_succ]
    refine wpAnyH_take (i := 12) (oi := ?oi_46) (v := ?_) ?hi_46 (by kernel_rfl) ?hf_46 (by kernel_rfl) ?hQ_46 ?hy_46 (by assumption) ?_
    case hi_46 => simp only [List.getElem?_toArray, List.getElem?_cons_zero, List.getElem?_cons_succ]; try rfl
    case hf_46 => kernel_rfl
    case hQ_46 => exact fun _ _ _ h => h
    case hy_46 =>
      refine Or.inl ⟨by rfl, ?_⟩
      intro W hSw
      obtain ⟨q0x, q0y, q1x, q1y, q2x, q2y⟩ := hSw
      go_simp
      try with_reducible rfl
    try simp only [Act.put, List.setIfInBounds_toArray, List.set_cons_zero, List.set_cons_succ]
    refine wpAnyH_take (i := 13) (oi := ?oi_47) (v := ?_) ?hi_47 (by kernel_rfl) ?hf_47 (by kernel_rfl) ?hQ_47 ?hy_47 (by assumption) ?_
    case hi_47 => simp only [List.getElem?_toArray, List.getElem?_cons_zero, List.getElem?_cons_succ]; try rfl
    case hf_47 => kernel_rfl
    case hQ_47 => exact fun _ _ _ h => h
    case hy_47 =>
      refine Or.inl ⟨by rfl, ?_⟩
      intro W hSw
      obtain ⟨q0x, q0y, q1x, q1y, q2x, q2y⟩ := hSw
      go_simp
      try with_reducible rfl
    try simp only [Act.put, List.setIfInBounds_toArray, List.set_cons_zero, List.set_cons_succ]
    refine wpAnyH_take (i := 14) (oi := ?oi_48) (v := ?_) ?hi_48 (by kernel_rfl) ?hf_48 (by kernel_rfl) ?hQ_48 ?hy_48 (by assumption) ?_
    case hi_48 => simp only [List.getElem?_toArray, List.getElem?_cons_zero, List.getElem?_cons_succ]; try rfl
    case hf_48 => kernel_rfl
    case hQ_48 => exact fun _ _ _ h => h
    case hy_48 =>
      refine Or.inl ⟨by rfl, ?_⟩
      intro W hSw
      obtain ⟨q0x, q0y, q1x, q1y, q2x, q2y⟩ := hSw
      go_simp
      try with_reducible rfl
    try simp only [Act.put, List.setIfInBounds_toArray, List.set_cons_zero, List.set_cons_succ]
    refine wpAnyH_take (i := 15) (oi := ?oi_49) (v := ?_) ?hi_49 (by kernel_rfl) ?hf_49 (by kernel_rfl) ?hQ_49 ?hy_49 (by assumption) ?_
    case hi_49 => simp only [List.getElem?_toArray, List.getElem?_cons_zero, List.getElem?_cons_succ]; try rfl
    case hf_49 => kernel_rfl
    case hQ_49 => exact fun _ _ _ h => h
    case hy_49 =>
      refine Or.inl ⟨by rfl, ?_⟩
      intro W hSw
      obtain ⟨q0x, q0y, q1x, q1y, q2x, q2y⟩ := hSw
      go_simp
      try with_reducible rfl
    try simp only [Act.put, List.setIfInBounds_toArray, List.set_cons_zero, List.set_cons_succ]
    refine wpAnyH_take (i := 16) (oi := ?oi_50) (v := ?_) ?hi_50 (by kernel_rfl) ?hf_50 (by kernel_rfl) ?hQ_50 ?hy_50 (by assumption) ?_
    case hi_50 => simp only [List.getElem?_toArray, List.getElem?_cons_zero, List.getElem?_cons_succ]; try rfl
    case hf_50 => kernel_rfl
    case hQ_50 => exact fun _ _ _ h => h
    case hy_50 =>
      refine Or.inl ⟨by rfl, ?_⟩
      intro W hSw
      obtain ⟨q0x, q0y, q1x, q1y, q2x, q2y⟩ := hSw
      go_simp
      try with_reducible rfl
    try simp only [Act.put, List.setIfInBounds_toArray, List.set_cons_zero, List.set_cons_succ]
    refine wpAnyH_take (i := 17) (oi := ?oi_51) (v := ?_) ?hi_51 (by kernel_rfl) ?hf_51 (by kernel_rfl) ?hQ_51 ?hy_51 (by assumption) ?_
    case hi_51 => simp only [List.getElem?_toArray, List.getElem?_cons_zero, List.getElem?_cons_succ]; try rfl
    case hf_51 => kernel_rfl
    case hQ_51 => exact fun _ _ _ h => h
    case hy_51 =>
      refine Or.inl ⟨by rfl, ?_⟩
      intro W hSw
      obtain ⟨q0x, q0y, q1x, q1y, q2x, q2y⟩ := hSw
      go_simp
      try with_reducible rfl
    try simp only [Act.put, List.setIfInBounds_toArray, List.set_cons_zero, List.set_cons_succ]
    refine wpAnyH_ready (rs := [18]) (by kernel_rfl) (by simp) ?_
    refine AllReadyH.cons (o := ?oi_52) ?hi_52 (fun K hK => ?_) AllReadyH.nil
    case hi_52 => simp only [List.getElem?_toArray, List.getElem?_cons_zero, List.getElem?_cons_succ]; try rfl
    go_simp
    (go_at_call 52
     with_reducible refine (E1.out _ HB1.out).mono ?_
     rintro e w2 ⟨rfl, hb2⟩
     have HB2 : Hid (Below w.heap.size w w2) := Lib.hid (HB1.out.trans (hb2.mono HB1.out.size))
     clear hb2)
    refine hK.out _ _ ⟨(HX.out.below HB2.out HX.out.lt).cell 0, (HY.out.below HB2.out HY.out.lt).cell 0, (HX.out.below HB2.out HX.out.lt).cell 1, (HY.out.below HB2.out HY.out.lt).cell 1, (HX.out.below HB2.out HX.out.lt).cell 2, (HY.out.below HB2.out HY.out.lt).cell 2⟩ (fun hHeld => ?_)
    clear hK K
    try simp only [Act.put, List.setIfInBounds_toArray, List.set_cons_zero, List.set_cons_succ]
    refine wpAnyH_take (i := 19) (oi := ?oi_53) (v := ?_) ?hi_53 (by kernel_rfl) ?hf_53 (by kernel_rfl) ?hQ_53 ?hy_53 (by assumption) ?_
    case hi_53 => simp only [List.getElem?_toArray, List.getElem?_cons_zero, List.getElem?_cons_succ]; try rfl
    case hf_53 => kernel_rfl
    case hQ_53 => exact fun _ _ _ h => h
    case hy_53 =>
      refine Or.inl ⟨by rfl, ?_⟩
      intro W hSw
      obtain ⟨q0x, q0y, q1x, q1y, q2x, q2y⟩ := hSw
      go_simp
      try with_reducible rfl
    try simp only [Act.put, List.setIfInBounds_toArray, List.set_cons_zero, List.set_cons_succ]
    refine wpAnyH_take (i := 20) (oi := ?oi_54) (v := ?_) ?hi_54 (by kernel_rfl) ?hf_54 (by kernel_rfl) ?hQ_54 ?hy_54 (by assumption) ?_
    case hi_54 => simp only [List.getElem?_toArray, List.getElem?_cons_zero, List.getElem?_cons_succ]; try rfl
    case hf_54 => kernel_rfl
    case hQ_54 => exact fun _ _ _ h => h
    case hy_54 =>
      refine Or.inl ⟨by rfl, ?_⟩
      intro W hSw
      obtain ⟨q0x, q0y, q1x, q1y, q2x, q2y⟩ := hSw
      go_simp
      try with_reducible rfl
    try simp only [Act.put, List.setIfInBounds_toArray, List.set_cons_zero, List.set_cons_succ]
    refine wpAnyH_take (i := 21) (oi := ?oi_55) (v := undef) ?hi_55 (by kernel_rfl) ?hf_55 (by kernel_rfl) ?hQ_55 ?hy_55 (by assumption) ?_
    case hi_55 => simp only [List.getElem?_toArray, List.getElem?_cons_zero, List.getElem?_cons_succ]; try rfl
    case hf_55 => kernel_rfl
    case hQ_55 => exact fun _ _ _ h => h
    case hy_55 => exact Or.inr ⟨by rfl, rfl⟩
    try simp only [Act.put, List.setIfInBounds_toArray, List.set_cons_zero, List.set_cons_succ]
    refine wpAnyH_take (i := 22) (oi := ?oi_56) (v := undef) ?hi_56 (by kernel_rfl) ?hf_56 (by kernel_rfl) ?hQ_56 ?hy_56 (by assumption) ?_
    case hi_56 => simp only [List.getElem?_toArray, List.getElem?_cons_zero, List.getElem?_cons_succ]; try rfl
    case hf_56 => kernel_rfl
    case hQ_56 => exact fun _ _ _ h => h
    case hy_56 => exact Or.inr ⟨by rfl, rfl⟩
    try simp only [Act.put, List.setIfInBounds_toArray, List.set_cons_zero, List.set_cons_succ]
    refine wpAnyH_take (i := 23) (oi := ?oi_57) (v := undef) ?hi_57 (by kernel_rfl) ?hf_57 (by kernel_rfl) ?hQ_57 ?hy_57 (by assumption) ?_
    case hi_57 => simp only [List.getElem?_toArray, List.getElem?_cons_zero, List.getElem?_cons_succ]; try rfl
    case hf_57 => kernel_rfl
    case hQ_57 => exact fun _ _ _ h => h
    case hy_57 => exact Or.inr ⟨by rfl, rfl⟩
    try simp only [Act.put, List.setIfInBounds_toArray, List.set_cons_zero, List.set_cons_succ]
    refine wpAnyH_take (i := 24) (oi := ?oi_58) (v := undef) ?hi_58 (by kernel_rfl) ?hf_58 (by kernel_rfl) ?hQ_58 ?hy_58 (by assumption) ?_
    case hi_58 => simp only [List.getElem?_toArray, List.getElem?_cons_zero, List.getElem?_cons_succ]; try rfl
    case hf_58 => kernel_rfl
    case hQ_58 => exact fun _ _ _ h => h
    case hy_58 => exact Or.inr ⟨by rfl, rfl⟩
    try simp only [Act.put, List.setIfInBounds_toArray, List.set_cons_zero, List.set_cons_succ]
    refine wpAnyH_take (i := 25) (oi := ?oi_59) (v := undef) ?hi_59 (by kernel_rfl) ?hf_59 (by kernel_rfl) ?hQ_59 ?hy_59 (by assumption) ?_
    case hi_59 => simp only [List.getElem?_toArray, List.getElem?_cons_zero, List.getElem?_cons_succ]; try rfl
    case hf_59 => kernel_rfl
    case hQ_59 => exact fun _ _ _ h => h
    case hy_59 => exact Or.inr ⟨by rfl, rfl⟩
    try simp only [Act.put, List.setIfInBounds_toArray, List.set_cons_zero, List.set_cons_succ]
    refine wpAnyH_take (i := 26) (oi := ?oi_60) (v := undef) ?hi_60 (by kernel_rfl) ?hf_60 (by kernel_rfl) ?hQ_60 ?hy_60 (by assumption) ?_
    case hi_60 => simp only [List.getElem?_toArray, List.getElem?_cons_zero, List.getElem?_cons_succ]; try rfl
    case hf_60 => kernel_rfl
    case hQ_60 => exact fun _ _ _ h => h
    case hy_60 => exact Or.inr ⟨by rfl, rfl⟩
    try simp only [Act.put, List.setIfInBounds_toArray, List.set_cons_zero, List.set_cons_succ]
    refine wpAnyH_take (i := 27) (oi := ?oi_61) (v := undef) ?hi_61 (by kernel_rfl) ?hf_61 (by kernel_rfl) ?hQ_61 ?hy_61 (by assumption) ?_
    case hi_61 => simp only [List.getElem?_toArray, List.getElem?_cons_zero, List.getElem?_cons_succ]; try rfl
    case hf_61 => kernel_rfl
    case hQ_61 => exact fun _ _ _ h => h
    case hy_61 => exact Or.inr ⟨by rfl, rfl⟩
    try simp only [Act.put, List.setIfInBounds_toArray, List.set_cons_zero, List.set_cons_succ]
    refine wpAnyH_take (i := 28) (oi := ?oi_62) (v := undef) ?hi_62 (by kernel_rfl) ?hf_62 (by kernel_rfl) ?hQ_62 ?hy_62 (by assumption) ?_
    case hi_62 => simp only [List.getElem?_toArray, List.getElem?_cons_zero, List.getElem?_cons_succ]; try rfl
    case hf_62 => kernel_rfl
    case hQ_62 => exact fun _ _ _ h => h
    case hy_62 => exact Or.inr ⟨by rfl, rfl⟩
    try simp only [Act.put, List.setIfInBounds_toArray, List.set_cons_zero, List.set_cons_succ]
    refine wpAnyH_take (i := 29) (oi := ?oi_63) (v := undef) ?hi_63 (by kernel_rfl) ?hf_63 (by kernel_rfl) ?hQ_63 ?hy_63 (by assumption) ?_
    case hi_63 => simp only [List.getElem?_toArray, List.getElem?_cons_zero, List.getElem?_cons_succ]; try rfl
    case hf_63 => kernel_rfl
    case hQ_63 => exact fun _ _ _ h => h
    case hy_63 => exact Or.inr ⟨by rfl, rfl⟩
    try simp only [Act.put, List.setIfInBounds_toArray, List.set_cons_zero, List.set_cons_succ]
    refine wpAnyH_take (i := 30) (oi := ?oi_64) (v := undef) ?hi_64 (by kernel_rfl) ?hf_64 (by kernel_rfl) ?hQ_64 ?hy_64 (by assumption) ?_
    case hi_64 => simp only [List.getElem?_toArray, List.getElem?_cons_zero, List.getElem?_cons_succ]; try rfl
    case hf_64 => kernel_rfl
    case hQ_64 => exact fun _ _ _ h => h
    case hy_64 => exact Or.inr ⟨by rfl, rfl⟩
    try simp only [Act.put, List.setIfInBounds_toArray, List.set_cons_zero, List.set_cons_succ]
    refine wpAnyH_take (i := 31) (oi := ?oi_65) (v := ?_) ?hi_65 (by kernel_rfl) ?hf_65 (by kernel_rfl) ?hQ_65 ?hy_65 (by assumption) ?_
    case hi_65 => simp only [List.getElem?_toArray, List.getElem?_cons_zero, List.getElem?_cons_succ]; try rfl
    case hf_65 => kernel_rfl
    case hQ_65 => exact fun _ _ _ h => h
    case hy_65 =>
      refine Or.inl ⟨by rfl, ?_⟩
      intro W hSw
      obtain ⟨q0x, q0y, q1x, q1y, q2x, q2y⟩ := hSw
      go_simp
      try with_reducible rfl
    try simp only [Act.put, List.setIfInBounds_toArray, List.set_cons_zero, List.set_cons_succ]
    refine wpAnyH_take (i := 32) (oi := ?oi_66) (v := ?_) ?hi_66 (by kernel_rfl) ?hf_66 (by kernel_rfl) ?hQ_66 ?hy_66 (by assumption) ?_
    case hi_66 => simp only [List.getElem?_toArray, List.getElem?_cons_zero, List.getElem?_cons_succ]; try rfl
    case hf_66 => kernel_rfl
    case hQ_66 => exact fun _ _ _ h => h
    case hy_66 =>
      refine Or.inl ⟨by rfl, ?_⟩
      intro W hSw
      obtain ⟨q0x, q0y, q1x, q1y, q2x, q2y⟩ := hSw
      go_simp
      try with_reducible rfl
    try simp only [Act.put, List.setIfInBounds_toArray, List.set_cons_zero, List.set_cons_succ]
    refine wpAnyH_done (by kernel_rfl) ?_ _
    clear hHeld
    go_wp2
    go_ret
    exact ⟨rfl, HB2.out⟩
  | true =>
  simp only [Bool.true_and]
  go_enter Try.func35, Try.ntmps35
  go_wp2_with fail
  refine wp_region_held_drew (S := (fun W => W.cell? ⟨gx, 0, none⟩ = some (.slice xA0 xn0 xc0) ∧ W.cell? ⟨gy, 0, none⟩ = some (.slice yA0 yn0 yc0) ∧ W.cell? ⟨gx, 1, none⟩ = some (.slice xA1 xn1 xc1) ∧ W.cell? ⟨gy, 1, none⟩ = some (.slice yA1 yn1 yc1) ∧ W.cell? ⟨gx, 2, none⟩ = some (.slice xA2 xn2 xc2) ∧ W.cell? ⟨gy, 2, none⟩ = some (.slice yA2 yn2 yc2))) (by kernel_rfl) ⟨HX.out.cell 0, HY.out.cell 0, HX.out.cell 1, HY.out.cell 1, HX.out.cell 2, HY.out.cell 2⟩ (fun hHeld => ?_)
  refine wpAnyH_take (i := 0) (oi := ?oi_67) (v := ?_) ?hi_67 (by kernel_rfl) ?hf_67 (by kernel_rfl) ?hQ_67 ?hy_67 (by assumption) ?_
  case hi_67 => simp only [List.getElem?_toArray, List.getElem?_cons_zero, List.getElem?_cons_succ]; try rfl
  case hf_67 => kernel_rfl
  case hQ_67 => exact fun _ _ _ h => h
  case hy_67 =>
    refine Or.inl ⟨by rfl, ?_⟩
    intro W hSw
    obtain ⟨q0x, q0y, q1x, q1y, q2x, q2y⟩ := hSw
    go_simp
    try with_reducible rfl
  try simp only [Act.put, List.setIfInBounds_toArray, List.set_cons_zero, List.set_cons_succ]
  refine wpAnyH_take (i := 1) (oi := ?oi_68) (v := ?_) ?hi_68 (by kernel_rfl) ?hf_68 (by kernel_rfl) ?hQ_68 ?hy_68 (by assumption) ?_
  case hi_68 => simp only [List.getElem?_toArray, List.getElem?_cons_zero, List.getElem?_cons_succ]; try rfl
  case hf_68 => kernel_rfl
  case hQ_68 => exact fun _ _ _ h => h
  case hy_68 =>
    refine Or.inl ⟨by rfl, ?_⟩
    intro W hSw
    obtain ⟨q0x, q0y, q1x, q1y, q2x, q2y⟩ := hSw
    go_simp
    try with_reducible rfl
  try simp only [Act.put, List.setIfInBounds_toArray, List.set_cons_zero, List.set_cons_succ]
  refine wpAnyH_take (i := 2) (oi := ?oi_69) (v := ?_) ?hi_69 (by kernel_rfl) ?hf_69 (by kernel_rfl) ?hQ_69 ?hy_69 (by assumption) ?_
  case hi_69 => simp only [List.getElem?_toArray, List.getElem?_cons_zero, List.getElem?_cons_succ]; try rfl
  case hf_69 => kernel_rfl
  case hQ_69 => exact fun _ _ _ h => h
  case hy_69 =>
    refine Or.inl ⟨by rfl, ?_⟩
    intro W hSw
    obtain ⟨q0x, q0y, q1x, q1y, q2x, q2y⟩ := hSw
    go_simp
    try with_reducible rfl
  try simp only [Act.put, List.setIfInBounds_toArray, List.set_cons_zero, List.set_cons_succ]
  refine wpAnyH_take (i := 3) (oi := ?oi_70) (v := ?_) ?hi_70 (by kernel_rfl) ?hf_70 (by kernel_rfl) ?hQ_70 ?hy_70 (by assumption) ?_
  case hi_70 => simp only [List.getElem?_toArray, List.getElem?_cons_zero, List.getElem?_cons_succ]; try rfl
  case hf_70 => kernel_rfl
  case hQ_70 => exact fun _ _ _ h => h
  case hy_70 =>
    refine Or.inl ⟨by rfl, ?_⟩
    intro W hSw
    obtain ⟨q0x, q0y, q1x, q1y, q2x, q2y⟩ := hSw
    go_simp
    try with_reducible rfl
  try simp only [Act.put, List.setIfInBounds_toArray, List.set_cons_zero, List.set_cons_succ]
  refine wpAnyH_take (i := 4) (oi := ?oi_71) (v := ?_) ?hi_71 (by kernel_rfl) ?hf_71 (by kernel_rfl) ?hQ_71 ?hy_71 (by assumption) ?_
  case hi_71 => simp only [List.getElem?_toArray, List.getElem?_cons_zero, List.getElem?_cons_succ]; try rfl
  case hf_71 => kernel_rfl
  case hQ_71 => exact fun _ _ _ h => h
  case hy_71 =>
    refine Or.inl ⟨by rfl, ?_⟩
    intro W hSw
    obtain ⟨q0x, q0y, q1x, q1y, q2x, q2y⟩ := hSw
    go_simp
    try with_reducible rfl
  try simp only [Act.put, List.setIfInBounds_toArray, List.set_cons_zero, List.set_cons_succ]
  refine wpAnyH_take (i := 5) (oi := ?oi_72) (v := ?_) ?hi_72 (by kernel_rfl) ?hf_72 (by kernel_rfl) ?hQ_72 ?hy_72 (by assumption) ?_
  case hi_72 => simp only [List.getElem?_toArray, List.getElem?_cons_zero, List.getElem?_cons_succ]; try rfl
  case hf_72 => kernel_rfl
  case hQ_72 => exact fun _ _ _ h => h
  case hy_72 =>
    refine Or.inl ⟨by rfl, ?_⟩
    intro W hSw
    obtain ⟨q0x, q0y, q1x, q1y, q2x, q2y⟩ := hSw
    go_simp
    try with_reducible rfl
  try simp only [Act.put, List.setIfInBounds_toArray, List.set_cons_zero, List.set_cons_succ]
  refine wpAnyH_take (i := 6) (oi := ?oi_73) (v := ?_) ?hi_73 (by kernel_rfl) ?hf_73 (by kernel_rfl) ?hQ_73 ?hy_73 (by assumption) ?_
  case hi_73 => simp only [List.getElem?_toArray, List.getElem?_cons_zero, List.getElem?_cons_succ]; try rfl
  case hf_73 => kernel_rfl
  case hQ_73 => exact fun _ _ _ h => h
  case hy_73 =>
    refine Or.inl ⟨by rfl, ?_⟩
    intro W hSw
    obtain ⟨q0x, q0y, q1x, q1y, q2x, q2y⟩ := hSw
    go_simp
    try with_reducible rfl
  try simp only [Act.put, List.setIfInBounds_toArray, List.set_cons_zero, List.set_cons_succ]
  refine wpAnyH_take (i := 7) (oi := ?oi_74) (v := ?_) ?hi_74 (by kernel_rfl) ?hf_74 (by kernel_rfl) ?hQ_74 ?hy_74 (by assumption) ?_
  case hi_74 => simp only [List.getElem?_toArray, List.getElem?_cons_zero, List.getElem?_cons_succ]; try rfl
  case hf_74 => kernel_rfl
  case hQ_74 => exact fun _ _ _ h => h
  case hy_74 =>
    refine Or.inl ⟨by rfl, ?_⟩
    intro W hSw
    obtain ⟨q0x, q0y, q1x, q1y, q2x, q2y⟩ := hSw
    go_simp
    try with_reducible rfl
  try simp only [Act.put, List.setIfInBounds_toArray, List.set_cons_zero, List.set_cons_succ]
  refine wpAnyH_ready (rs := [8]) (by kernel_rfl) (by simp) ?_
  refine AllReadyH.cons (o := ?oi_75) ?hi_75 (fun K hK => ?_) AllReadyH.nil
  case hi_75 => simp only [List.getElem?_toArray, List.getElem?_cons_zero, List.getElem?_cons_succ]; try rfl
  go_simp
  (go_at_call 51
   with_reducible refine (E0.out _ HD.out).mono ?_
   rintro e w1 ⟨rfl, hb1⟩
   have HB1 : Hid (Below w.heap.size w w1) := Lib.hid (HD.out.trans (hb1.mono HD.out.size))
   clear hb1)
  refine hK.out _ _ ⟨(HX.out.below HB1.out HX.out.lt).cell 0, (HY.out.below HB1.out HY.out.lt).cell 0, (HX.out.below HB1.out HX.out.lt).cell 1, (HY.out.below HB1.out HY.out.lt).cell 1, (HX.out.below HB1.out HX.out.lt).cell 2, (HY.out.below HB1.out HY.out.lt).cell 2⟩ (fun hHeld => ?_)
  clear hK K
  try simp only [Act.put, List.setIfInBounds_toArray, List.set_cons_zero, List.set_cons_succ]
  refine wpAnyH_take (i := 9) (oi := ?oi_76) (v := ?_) ?hi_76 (by kernel_rfl) ?hf_76 (by kernel_rfl) ?hQ_76 ?hy_76 (by assumption) ?_
  case hi_76 => simp only [List.getElem?_toArray, List.getElem?_cons_zero, List.getElem?_cons_succ]; try rfl
  case hf_76 => kernel_rfl
  case hQ_76 => exact fun _ _ _ h => h
  case hy_76 =>
    refine Or.inl ⟨by rfl, ?_⟩
    intro W hSw
    obtain ⟨q0x, q0y, q1x, q1y, q2x, q2y⟩ := hSw
    go_simp
    try with_reducible rfl
  try simp only [Act.put, List.setIfInBounds_toArray, List.set_cons_zero, List.set_cons_succ]
  refine wpAnyH_take (i := 10) (oi := ?oi_77) (v := ?_) ?hi_77 (by kernel_rfl) ?hf_77 (by kernel_rfl) ?hQ_77 ?hy_77 (by assumption) ?_
  case hi_77 => simp only [List.getElem?_toArray, List.getElem?_cons_zero, List.getElem?_cons_succ]; try rfl
  case hf_77 => kernel_rfl
  case hQ_77 => exact fun _ _ _ h => h
  case hy_77 =>
    refine Or.inl ⟨by rfl, ?_⟩
    intro W hSw
    obtain ⟨q0x, q0y, q1x, q1y, q2x, q2y⟩ := hSw
    go_simp
    try with_reducible rfl
  try simp only [Act.put, List.setIfInBounds_toArray, List.set_cons_zero, List.set_cons_succ]
  refine wpAnyH_take (i := 11) (oi := ?oi_78) (v := ?_) ?hi_78 (by kernel_rfl) ?hf_78 (by kernel_rfl) ?hQ_78 ?hy_78 (by assumption) ?_
  case hi_78 => simp only [List.getElem?_toArray, List.getElem?_cons_zero, List.getElem?_cons_succ]; try rfl
  case hf_78 => kernel_rfl
  case hQ_78 => exact fun _ _ _ h => h
  case hy_78 =>
    refine Or.inl ⟨by rfl, ?_⟩
    intro W hSw
    obtain ⟨q0x, q0y, q1x, q1y, q2x, q2y⟩ := hSw
    go_simp
    try with_reducible rfl
  try simp only [Act.put, List.setIfInBounds_toArray, List.set_cons_zero, List.set_cons_succ]
  refine wpAnyH_take (i := 12) (oi := ?oi_79) (v := ?_) ?hi_79 (by kernel_rfl) ?hf_79 (by kernel_rfl) ?hQ_79 ?hy_79 (by assumption) ?_
  case hi_79 => simp only [List.getElem?_toArray, List.getElem?_cons_zero, List.getElem?_cons_succ]; try rfl
  case hf_79 => kernel_rfl
  case hQ_79 => exact fun _ _ _ h => h
  case hy_79 =>
    refine Or.inl ⟨by rfl, ?_⟩
    intro W hSw
    obtain ⟨q0x, q0y, q1x, q1y, q2x, q2y⟩ := hSw
    go_simp
    try with_reducible rfl
  try simp only [Act.put, List.setIfInBounds_toArray, List.set_cons_zero, List.set_cons_succ]
  refine wpAnyH_take (i := 13) (oi := ?oi_80) (v := ?_) ?hi_80 (by kernel_rfl) ?hf_80 (by kernel_rfl) ?hQ_80 ?hy_80 (by assumption) ?_
  case hi_80 => simp only [List.getElem?_toArray, List.getElem?_cons_zero, List.getElem?_cons_succ]; try rfl
  case hf_80 => kernel_rfl
  case hQ_80 => exact fun _ _ _ h => h
  case hy_80 =>
    refine Or.inl ⟨by rfl, ?_⟩
    intro W hSw
    obtain ⟨q0x, q0y, q1x, q1y, q2x, q2y⟩ := hSw
    go_simp
    try with_reducible rfl
  try simp only [Act.put, List.setIfInBounds_toArray, List.set_cons_zero, List.set_cons_succ]
  refine wpAnyH_take (i := 14) (oi := ?oi_81) (v := ?_) ?hi_81 (by kernel_rfl) ?hf_81 (by kernel_rfl) ?hQ_81 ?hy_81 (by assumption) ?_
  case hi_81 => simp only [List.getElem?_toArray, List.getElem?_cons_zero, List.getElem?_cons_succ]; try rfl
  case hf_81 => kernel_rfl
  case hQ_81 => exact fun _ _ _ h => h
  case hy_81 =>
    refine Or.inl ⟨by rfl, ?_⟩
    intro W hSw
    obtain ⟨q0x, q0y, q1x, q1y, q2x, q2y⟩ := hSw
    go_simp
    try with_reducible rfl
  try simp only [Act.put, List.setIfInBounds_toArray, List.set_cons_zero, List.set_cons_succ]
  refine wpAnyH_take (i := 15) (oi := ?oi_82) (v := ?_) ?hi_82 (by kernel_rfl) ?hf_82 (by kernel_rfl) ?hQ_82 ?hy_82 (by assumption) ?_
  case hi_82 => simp only [List.getElem?_toArray, List.getElem?_cons_zero, List.getElem?_cons_succ]; try rfl
  case hf_82 => kernel_rfl
  case hQ_82 => exact fun _ _ _ h => h
  case hy_82 =>
    refine Or.inl ⟨by rfl, ?_⟩
    intro W hSw
    obtain ⟨q0x, q0y, q1x, q1y, q2x, q2y⟩ := hSw
    go_simp
    try with_reducible rfl
  try simp only [Act.put, List.setIfInBounds_toArray, List.set_cons_zero, List.set_cons_succ]
  refine wpAnyH_take (i := 16) (oi := ?oi_83) (v := ?_) ?hi_83 (by kernel_rfl) ?hf_83 (by kernel_rfl) ?hQ_83 ?hy_83 (by assumption) ?_
  case hi_83 => simp only [List.getElem?_toArray, List.getElem?_cons_zero, List.getElem?_cons_succ]; try rfl
  case hf_83 => kernel_rfl
  case hQ_83 => exact fun _ _ _ h => h
  case hy_83 =>
    refine Or.inl ⟨by rfl, ?_⟩
    intro W hSw
    obtain ⟨q0x, q0y, q1x, q1y, q2x, q2y⟩ := hSw
    go_simp
    try with_reducible rfl
  try simp only [Act.put, List.setIfInBounds_toArray, List.set_cons_zero, List.set_cons_succ]
  refine wpAnyH_take (i := 17) (oi := ?oi_84) (v := ?_) ?hi_84 (by kernel_rfl) ?hf_84 (by kernel_rfl) ?hQ_84 ?hy_84 (by assumption) ?_
  case hi_84 => simp only [List.getElem?_toArray, List.getElem?_cons_zero, List.getElem?_cons_succ]; try rfl
  case hf_84 => kernel_rfl
  case hQ_84 => exact fun _ _ _ h => h
  case hy_84 =>
    refine Or.inl ⟨by rfl, ?_⟩
    intro W hSw
    obtain ⟨q0x, q0y, q1x, q1y, q2x, q2y⟩ := hSw
    go_simp
    try with_reducible rfl
  try simp only [Act.put, List.setIfInBounds_toArray, List.set_cons_zero, List.set_cons_succ]
  refine wpAnyH_ready (rs := [18]) (by kernel_rfl) (by simp) ?_
  refine AllReadyH.cons (o := ?oi_85) ?hi_85 (fun K hK => ?_) AllReadyH.nil
  case hi_85 => simp only [List.getElem?_toArray, List.getElem?_cons_zero, List.getElem?_cons_succ]; try rfl
  go_simp
  (go_at_call 52
   with_reducible refine (E1.out _ HB1.out).mono ?_
   rintro e w2 ⟨rfl, hb2⟩
   have HB2 : Hid (Below w.heap.size w w2) := Lib.hid (HB1.out.trans (hb2.mono HB1.out.size))
   clear hb2)
  refine hK.out _ _ ⟨(HX.out.below HB2.out HX.out.lt).cell 0, (HY.out.below HB2.out HY.out.lt).cell 0, (HX.out.below HB2.out HX.out.lt).cell 1, (HY.out.below HB2.out HY.out.lt).cell 1, (HX.out.below HB2.out HX.out.lt).cell 2, (HY.out.below HB2.out HY.out.lt).cell 2⟩ (fun hHeld => ?_)
  clear hK K
  try simp only [Act.put, List.setIfInBounds_toArray, List.set_cons_zero, List.set_cons_succ]
  refine wpAnyH_take (i := 19) (oi := ?oi_86) (v := ?_) ?hi_86 (by kernel_rfl) ?hf_86 (by kernel_rfl) ?hQ_86 ?hy_86 (by assumption) ?_
  case hi_86 => simp only [List.getElem?_toArray, List.getElem?_cons_zero, List.getElem?_cons_succ]; try rfl
  case hf_86 => kernel_rfl
  case hQ_86 => exact fun _ _ _ h => h
  case hy_86 =>
    refine Or.inl ⟨by rfl, ?_⟩
    intro W hSw
    obtain ⟨q0x, q0y, q1x, q1y, q2x, q2y⟩ := hSw
    go_simp
    try with_reducible rfl
  try simp only [Act.put, List.setIfInBounds_toArray, List.set_cons_zero, List.set_cons_succ]
  refine wpAnyH_take (i := 20) (oi := ?oi_87) (v := ?_) ?hi_87 (by kernel_rfl) ?hf_87 (by kernel_rfl) ?hQ_87 ?hy_87 (by assumption) ?_
  case hi_87 => simp only [List.getElem?_toArray, List.getElem?_cons_zero, List.getElem?_cons_succ]; try rfl
  case hf_87 => kernel_rfl
  case hQ_87 => exact fun _ _ _ h => h
  case hy_87 =>
    refine Or.inl ⟨by rfl, ?_⟩
    intro W hSw
    obtain ⟨q0x, q0y, q1x, q1y, q2x, q2y⟩ := hSw
    go_simp
    try with_reducible rfl
  try simp only [Act.put, List.setIfInBounds_toArray, List.set_cons_zero, List.set_cons_succ]
  refine wpAnyH_take (i := 21) (oi := ?oi_88) (v := ?_) ?hi_88 (by kernel_rfl) ?hf_88 (by kernel_rfl) ?hQ_88 ?hy_88 (by assumption) ?_
  case hi_88 => simp only [List.getElem?_toArray, List.getElem?_cons_zero, List.getElem?_cons_succ]; try rfl
  case hf_88 => kernel_rfl
  case hQ_88 => exact fun _ _ _ h => h
  case hy_88 =>
    refine Or.inl ⟨by rfl, ?_⟩
    intro W hSw
    obtain ⟨q0x, q0y, q1x, q1y, q2x, q2y⟩ := hSw
    go_simp
    try with_reducible rfl
  try simp only [Act.put, List.setIfInBounds_toArray, List.set_cons_zero, List.set_cons_succ]
  refine wpAnyH_take (i := 22) (oi := ?oi_89) (v := ?_) ?hi_89 (by kernel_rfl) ?hf_89 (by kernel_rfl) ?hQ_89 ?hy_89 (by assumption) ?_
  case hi_89 => simp only [List.getElem?_toArray, List.getElem?_cons_zero, List.getElem?_cons_succ]; try rfl
  case hf_89 => kernel_rfl
  case hQ_89 => exact fun _ _ _ h => h
  case hy_89 =>
    refine Or.inl ⟨by rfl, ?_⟩
    intro W hSw
    obtain ⟨q0x, q0y, q1x, q1y, q2x, q2y⟩ := hSw
    go_simp
    try with_reducible rfl
  try simp only [Act.put, List.setIfInBounds_toArray, List.set_cons_zero, List.set_cons_succ]
  refine wpAnyH_take (i := 23) (oi := ?oi_90) (v := ?_) ?hi_90 (by kernel_rfl) ?hf_90 (by kernel_rfl) ?hQ_90 ?hy_90 (by assumption) ?_
  case hi_90 => simp only [List.getElem?_toArray, List.getElem?_cons_zero, List.getElem?_cons_succ]; try rfl
  case hf_90 => kernel_rfl
  case hQ_90 => exact fun _ _ _ h => h
  case hy_90 =>
    refine Or.inl ⟨by rfl, ?_⟩
    intro W hSw
    obtain ⟨q0x, q0y, q1x, q1y, q2x, q2y⟩ := hSw
    go_simp
    try with_reducible rfl
  try simp only [Act.put, List.setIfInBounds_toArray, List.set_cons_zero, List.set_cons_succ]
  refine wpAnyH_take (i := 24) (oi := ?oi_91) (v := ?_) ?hi_91 (by kernel_rfl) ?hf_91 (by kernel_rfl) ?hQ_91 ?hy_91 (by assumption) ?_
  case hi_91 => simp only [List.getElem?_toArray, List.getElem?_cons_zero, List.getElem?_cons_succ]; try rfl
  case hf_91 => kernel_rfl
  case hQ_91 => exact fun _ _ _ h => h
  case hy_91 =>
    refine Or.inl ⟨by rfl, ?_⟩
    intro W hSw
    obtain ⟨q0x, q0y, q1x, q1y, q2x, q2y⟩ := hSw
    go_simp
    try with_reducible rfl
  try simp only [Act.put, List.setIfInBounds_toArray, List.set_cons_zero, List.set_cons_succ]
  refine wpAnyH_take (i := 25) (oi := ?oi_92) (v := ?_) ?hi_92 (by kernel_rfl) ?hf_92 (by kernel_rfl) ?hQ_92 ?hy_92 (by assumption) ?_
  case hi_92 => simp only [List.getElem?_toArray, List.getElem?_cons_zero, List.getElem?_cons_succ]; try rfl
  case hf_92 => kernel_rfl
  case hQ_92 => exact fun _ _ _ h => h
  case hy_92 =>
    refine Or.inl ⟨by rfl, ?_⟩
    intro W hSw
    obtain ⟨q0x, q0y, q1x, q1y, q2x, q2y⟩ := hSw
    go_simp
    try with_reducible rfl
  try simp only [Act.put, List.setIfInBounds_toArray, List.set_cons_zero, List.set_cons_succ]
  refine wpAnyH_take (i := 26) (oi := ?oi_93) (v := ?_) ?hi_93 (by kernel_rfl) ?hf_93 (by kernel_rfl) ?hQ_93 ?hy_93 (by assumption) ?_
  case hi_93 => simp only [List.getElem?_toArray, List.getElem?_cons_zero, List.getElem?_cons_succ]; try rfl
  case hf_93 => kernel_rfl
  case hQ_93 => exact fun _ _ _ h => h
  case hy_93 =>
    refine Or.inl ⟨by rfl, ?_⟩
    intro W hSw
    obtain ⟨q0x, q0y, q1x, q1y, q2x, q2y⟩ := hSw
    go_simp
    try with_reducible rfl
  try simp only [Act.put, List.setIfInBounds_toArray, List.set_cons_zero, List.set_cons_succ]
  refine wpAnyH_take (i := 27) (oi := ?oi_94) (v := ?_) ?hi_94 (by kernel_rfl) ?hf_94 (by kernel_rfl) ?hQ_94 ?hy_94 (by assumption) ?_
  case hi_94 => simp only [List.getElem?_toArray, List.getElem?_cons_zero, List.getElem?_cons_succ]; try rfl
  case hf_94 => kernel_rfl
  case hQ_94 => exact fun _ _ _ h => h
  case hy_94 =>
    refine Or.inl ⟨by rfl, ?_⟩
    intro W hSw
    obtain ⟨q0x, q0y, q1x, q1y, q2x, q2y⟩ := hSw
    go_simp
    try with_reducible rfl
  try simp only [Act.put, List.setIfInBounds_toArray, List.set_cons_zero, List.set_cons_succ]
  refine wpAnyH_take (i := 28) (oi := ?oi_95) (v := ?_) ?hi_95 (by kernel_rfl) ?hf_95 (by kernel_rfl) ?hQ_95 ?hy_95 (by assumption) ?_
  case hi_95 => simp only [List.getElem?_toArray, List.getElem?_cons_zero, List.getElem?_cons_succ]; try rfl
  case hf_95 => kernel_rfl
  case hQ_95 => exact fun _ _ _ h => h
  case hy_95 =>
    refine Or.inl ⟨by rfl, ?_⟩
    intro W hSw
    obtain ⟨q0x, q0y, q1x, q1y, q2x, q2y⟩ := hSw
    go_simp
    try with_reducible rfl
  try simp only [Act.put, List.setIfInBounds_toArray, List.set_cons_zero, List.set_cons_succ]
  refine wpAnyH_take (i := 29) (oi := ?oi_96) (v := ?_) ?hi_96 (by kernel_rfl) ?hf_96 (by kernel_rfl) ?hQ_96 ?hy_96 (by assumption) ?_
  case hi_96 => simp only [List.getElem?_toArray, List.getElem?_cons_zero, List.getElem?_cons_succ]; try rfl
  case hf_96 => kernel_rfl
  case hQ_96 => exact fun _ _ _ h => h
  case hy_96 =>
    refine Or.inl ⟨by rfl, ?_⟩
    intro W hSw
    obtain ⟨q0x, q0y, q1x, q1y, q2x, q2y⟩ := hSw
    go_simp
    try with_reducible rfl
  try simp only [Act.put, List.setIfInBounds_toArray, List.set_cons_zero, List.set_cons_succ]
  refine wpAnyH_ready (rs := [30]) (by kernel_rfl) (by simp) ?_
  refine AllReadyH.cons (o := ?oi_97) ?hi_97 (fun K hK => ?_) AllReadyH.nil
  case hi_97 => simp only [List.getElem?_toArray, List.getElem?_cons_zero, List.getElem?_cons_succ]; try rfl
  go_simp
  (go_at_call 53
   with_reducible refine (E2.out _ HB2.out).mono ?_
   rintro e w3 ⟨rfl, hb3⟩
   have HB3 : Hid (Below w.heap.size w w3) := Lib.hid (HB2.out.trans (hb3.mono HB2.out.size))
   clear hb3)
  refine hK.out _ _ ⟨(HX.out.below HB3.out HX.out.lt).cell 0, (HY.out.below HB3.out HY.out.lt).cell 0, (HX.out.below HB3.out HX.out.lt).cell 1, (HY.out.below HB3.out HY.out.lt).cell 1, (HX.out.below HB3.out HX.out.lt).cell 2, (HY.out.below HB3.out HY.out.lt).cell 2⟩ (fun hHeld => ?_)
  clear hK K
  try simp only [Act.put, List.setIfInBounds_toArray, List.set_cons_zero, List.set_cons_succ]
  refine wpAnyH_take (i := 31) (oi := ?oi_98) (v := ?_) ?hi_98 (by kernel_rfl) ?hf_98 (by kernel_rfl) ?hQ_98 ?hy_98 (by assumption) ?_
  case hi_98 => simp only [List.getElem?_toArray, List.getElem?_cons_zero, List.getElem?_cons_succ]; try rfl
  case hf_98 => kernel_rfl
  case hQ_98 => exact fun _ _ _ h => h
  case hy_98 =>
    refine Or.inl ⟨by rfl, ?_⟩
    intro W hSw
    obtain ⟨q0x, q0y, q1x, q1y, q2x, q2y⟩ := hSw
    go_simp
    try with_reducible rfl
  try simp only [Act.put, List.setIfInBounds_toArray, List.set_cons_zero, List.set_cons_succ]
  refine wpAnyH_take (i := 32) (oi := ?oi_99) (v := ?_) ?hi_99 (by kernel_rfl) ?hf_99 (by kernel_rfl) ?hQ_99 ?hy_99 (by assumption) ?_
  case hi_99 => simp only [List.getElem?_toArray, List.getElem?_cons_zero, List.getElem?_cons_succ]; try rfl
  case hf_99 => kernel_rfl
  case hQ_99 => exact fun _ _ _ h => h
  case hy_99 =>
    refine Or.inl ⟨by rfl, ?_⟩
    intro W hSw
    obtain ⟨q0x, q0y, q1x, q1y, q2x, q2y⟩ := hSw
    go_simp
    try with_reducible rfl
  try simp only [Act.put, List.setIfInBounds_toArray, List.set_cons_zero, List.set_cons_succ]
  refine wpAnyH_done (by kernel_rfl) ?_ _
  clear hHeld
  go_wp2
  go_ret
  exact ⟨rfl, HB3.out⟩
set_option maxHeartbeats 4000000 in
set_option maxRecDepth 100000 in
theorem sameStore0 (gx : Nat) (tabx startx : Int) (xA0 : Option Addr) (xn0 xc0 : Nat) (xA1 : Option Addr) (xn1 xc1 : Nat) (xA2 : Option Addr) (xn2 xc2 : Nat) (xA4 : Option Addr) (xn4 xc4 : Nat) (xA5 : Option Addr) (xn5 xc5 : Nat) (xA6 : Option Addr) (xn6 xc6 : Nat) (xA8 : Option Addr) (xn8 xc8 : Nat) (xA9 : Option Addr) (xn9 xc9 : Nat) (gy : Nat) (taby starty : Int) (yA0 : Option Addr) (yn0 yc0 : Nat) (yA1 : Option Addr) (yn1 yc1 : Nat) (yA2 : Option Addr) (yn2 yc2 : Nat) (yA4 : Option Addr) (yn4 yc4 : Nat) (yA5 : Option Addr) (yn5 yc5 : Nat) (yA6 : Option Addr) (yn6 yc6 : Nat) (yA8 : Option Addr) (yn8 yc8 : Nat) (yA9 : Option Addr) (yn9 yc9 : Nat) (r0 r1 r2 r3 : Bool) (w : World) (hx : Blk w gx 73 #[.slice xA0 xn0 xc0, .slice xA1 xn1 xc1, .slice xA2 xn2 xc2, .int .i64 tabx, .slice xA4 xn4 xc4, .slice xA5 xn5 xc5, .slice xA6 xn6 xc6, .int .i64 startx, .slice xA8 xn8 xc8, .slice xA9 xn9 xc9]) (hy : Blk w gy 73 #[.slice yA0 yn0 yc0, .slice yA1 yn1 yc1, .slice yA2 yn2 yc2, .int .i64 taby, .slice yA4 yn4 yc4, .slice yA5 yn5 yc5, .slice yA6 yn6 yc6, .int .i64 starty, .slice yA8 yn8 yc8, .slice yA9 yn9 yc9])
    (e0 : ∀ W, Below w.heap.size w W → Calls Try.prog 58 #[.slice xA4 xn4 xc4, .slice yA4 yn4 yc4] W fun e w' => e = .returned (.bool r0) ∧ Below W.heap.size W w')
    (e1 : ∀ W, Below w.heap.size w W → Calls Try.prog 59 #[.slice xA5 xn5 xc5, .slice yA5 yn5 yc5] W fun e w' => e = .returned (.bool r1) ∧ Below W.heap.size W w')
    (e2 : ∀ W, Below w.heap.size w W → Calls Try.prog 60 #[.slice xA8 xn8 xc8, .slice yA8 yn8 yc8, .func (.func 54) #[] #[]] W fun e w' => e = .returned (.bool r2) ∧ Below W.heap.size W w')
    (e3 : ∀ W, Below w.heap.size w W → Calls Try.prog 61 #[.slice xA9 xn9 xc9, .slice yA9 yn9 yc9, .func (.func 56) #[] #[]] W fun e w' => e = .returned (.bool r3) ∧ Below W.heap.size W w') :
    Calls Try.prog 36 #[.pointer (some ⟨gx, 0, none⟩), .pointer (some ⟨gy, 0, none⟩)] w fun e w' => e = .returned (.bool (decide (tabx = taby) && r0 && r1 && r2 && r3)) ∧ Below w.heap.size w w' := by
  have E0 := Lib.hid e0
  have E1 := Lib.hid e1
  have E2 := Lib.hid e2
  have E3 := Lib.hid e3
  have HX := Lib.hid hx
  have HY := Lib.hid hy
  have HB0 : Hid (Below w.heap.size w w) := Lib.hid (Below.refl _ _)
  clear e0 e1 e2 e3 hx hy
  have x3_0 : w.drew.cell? ⟨gx, 3, none⟩ = some (.int .i64 tabx) := HX.out.cell 3
  have y3_0 : w.drew.cell? ⟨gy, 3, none⟩ = some (.int .i64 taby) := HY.out.cell 3
  have x4_0 : w.drew.cell? ⟨gx, 4, none⟩ = some (.slice xA4 xn4 xc4) := HX.out.cell 4
  have y4_0 : w.drew.cell? ⟨gy, 4, none⟩ = some (.slice yA4 yn4 yc4) := HY.out.cell 4
  have HD : Hid (Below w.heap.size w w.drew) := Lib.hid ((Below.refl _ _).drew)
  by_cases hq : tabx = taby
  case neg =>
    have hc : decide (tabx = taby) = false := by simp [hq]
    have hc2 : (tabx == taby) = false := by simp [hq]
    rw [hc]
    clear hq
    simp only [Bool.false_and]
    clear E0
    go_enter Try.func36, Try.ntmps36
    go_wp2_with fail
    refine wp_region_held_drew (S := (fun W => W.cell? ⟨gx, 3, none⟩ = some (.int .i64 tabx) ∧ W.cell? ⟨gy, 3, none⟩ = some (.int .i64 taby) ∧ W.cell? ⟨gx, 4, none⟩ = some (.slice xA4 xn4 xc4) ∧ W.cell? ⟨gy, 4, none⟩ = some (.slice yA4 yn4 yc4) ∧ W.cell? ⟨gx, 5, none⟩ = some (.slice xA5 xn5 xc5) ∧ W.cell? ⟨gy, 5, none⟩ = some (.slice yA5 yn5 yc5) ∧ W.cell? ⟨gx, 8, none⟩ = some (.slice xA8 xn8 xc8) ∧ W.cell? ⟨gy, 8, none⟩ = some (.slice yA8 yn8 yc8) ∧ W.cell? ⟨gx, 9, none⟩ = some (.slice xA9 xn9 xc9) ∧ W.cell? ⟨gy, 9, none⟩ = some (.slice yA9 yn9 yc9))) (by kernel_rfl) ⟨HX.out.cell 3, HY.out.cell 3, HX.out.cell 4, HY.out.cell 4, HX.out.cell 5, HY.out.cell 5, HX.out.cell 8, HY.out.cell 8, HX.out.cell 9, HY.out.cell 9⟩ (fun hHeld => ?_)
    refine wpAnyH_take (i := 0) (oi := ?oi_100) (v := ?_) ?hi_100 (by kernel_rfl) ?hf_100 (by kernel_rfl) ?hQ_100 ?hy_100 (by assumption) ?_
    case hi_100 => simp only [List.getElem?_toArray, List.getElem?_cons_zero, List.getElem?_cons_succ]; try rfl
    case hf_100 => kernel_rfl
    case hQ_100 => exact fun _ _ _ h => h
    case hy_100 =>
      refine Or.inl ⟨by rfl, ?_⟩
      intro W hSw
      obtain ⟨q3x, q3y, q4x, q4y, q5x, q5y, q8x, q8y, q9x, q9y⟩ := hSw
      go_simp
      try with_reducible rfl
    try simp only [Act.put, List.setIfInBounds_toArray, List.set_cons_zero, List.set_cons_succ]
    refine wpAnyH_take (i := 1) (oi := ?oi_101) (v := ?_) ?hi_101 (by kernel_rfl) ?hf_101 (by kernel_rfl) ?hQ_101 ?hy_101 (by assumption) ?_
    case hi_101 => simp only [List.getElem?_toArray, List.getElem?_cons_zero, List.getElem?_cons_succ]; try rfl
    case hf_101 => kernel_rfl
    case hQ_101 => exact fun _ _ _ h => h
    case hy_101 =>
      refine Or.inl ⟨by rfl, ?_⟩
      intro W hSw
      obtain ⟨q3x, q3y, q4x, q4y, q5x, q5y, q8x, q8y, q9x, q9y⟩ := hSw
      go_simp
      try with_reducible rfl
    try simp only [Act.put, List.setIfInBounds_toArray, List.set_cons_zero, List.set_cons_succ]
    refine wpAnyH_take (i := 2) (oi := ?oi_102) (v := ?_) ?hi_102 (by kernel_rfl) ?hf_102 (by kernel_rfl) ?hQ_102 ?hy_102 (by assumption) ?_
    case hi_102 => simp only [List.getElem?_toArray, List.getElem?_cons_zero, List.getElem?_cons_succ]; try rfl
    case hf_102 => kernel_rfl
    case hQ_102 => exact fun _ _ _ h => h
    case hy_102 =>
      refine Or.inl ⟨by rfl, ?_⟩
      intro W hSw
      obtain ⟨q3x, q3y, q4x, q4y, q5x, q5y, q8x, q8y, q9x, q9y⟩ := hSw
      go_simp
      try with_reducible rfl
    try simp only [Act.put, List.setIfInBounds_toArray, List.set_cons_zero, List.set_cons_succ]
    refine wpAnyH_take (i := 3) (oi := ?oi_103) (v := ?_) ?hi_103 (by kernel_rfl) ?hf_103 (by kernel_rfl) ?hQ_103 ?hy_103 (by assumption) ?_
    case hi_103 => simp only [List.getElem?_toArray, List.getElem?_cons_zero, List.getElem?_cons_succ]; try rfl
    case hf_103 => kernel_rfl
    case hQ_103 => exact fun _ _ _ h => h
    case hy_103 =>
      refine Or.inl ⟨by rfl, ?_⟩
      intro W hSw
      obtain ⟨q3x, q3y, q4x, q4y, q5x, q5y, q8x, q8y, q9x, q9y⟩ := hSw
      go_simp
      try with_reducible rfl
    try simp only [Act.put, List.setIfInBounds_toArray, List.set_cons_zero, List.set_cons_succ]
    refine wpAnyH_take (i := 4) (oi := ?oi_104) (v := ?_) ?hi_104 (by kernel_rfl) ?hf_104 (by kernel_rfl) ?hQ_104 ?hy_104 (by assumption) ?_
    case hi_104 => simp only [List.getElem?_toArray, List.getElem?_cons_zero, List.getElem?_cons_succ]; try rfl
    case hf_104 => kernel_rfl
    case hQ_104 => exact fun _ _ _ h => h
    case hy_104 =>
      refine Or.inl ⟨by rfl, ?_⟩
      intro W hSw
      obtain ⟨q3x, q3y, q4x, q4y, q5x, q5y, q8x, q8y, q9x, q9y⟩ := hSw
      go_simp
      try with_reducible rfl
    try simp only [Act.put, List.setIfInBounds_toArray, List.set_cons_zero, List.set_cons_succ]
    refine wpAnyH_take (i := 5) (oi := ?oi_105) (v := ?_) ?hi_105 (by kernel_rfl) ?hf_105 (by kernel_rfl) ?hQ_105 ?hy_105 (by assumption) ?_
    case hi_105 => simp only [List.getElem?_toArray, List.getElem?_cons_zero, List.getElem?_cons_succ]; try rfl
    case hf_105 => kernel_rfl
    case hQ_105 => exact fun _ _ _ h => h
    case hy_105 =>
      refine Or.inl ⟨by rfl, ?_⟩
      intro W hSw
      obtain ⟨q3x, q3y, q4x, q4y, q5x, q5y, q8x, q8y, q9x, q9y⟩ := hSw
      go_simp
      try with_reducible rfl
    try simp only [Act.put, List.setIfInBounds_toArray, List.set_cons_zero, List.set_cons_succ]
    refine wpAnyH_take (i := 6) (oi := ?oi_106) (v := ?_) ?hi_106 (by kernel_rfl) ?hf_106 (by kernel_rfl) ?hQ_106 ?hy_106 (by assumption) ?_
    case hi_106 => simp only [List.getElem?_toArray, List.getElem?_cons_zero, List.getElem?_cons_succ]; try rfl
    case hf_106 => kernel_rfl
    case hQ_106 => exact fun _ _ _ h => h
    case hy_106 =>
      refine Or.inl ⟨by rfl, ?_⟩
      intro W hSw
      obtain ⟨q3x, q3y, q4x, q4y, q5x, q5y, q8x, q8y, q9x, q9y⟩ := hSw
      go_simp
      try with_reducible rfl
    try simp only [Act.put, List.setIfInBounds_toArray, List.set_cons_zero, List.set_cons_succ]
    refine wpAnyH_take (i := 7) (oi := ?oi_107) (v := ?_) ?hi_107 (by kernel_rfl) ?hf_107 (by kernel_rfl) ?hQ_107 ?hy_107 (by assumption) ?_
    case hi_107 => simp only [List.getElem?_toArray, List.getElem?_cons_zero, List.getElem?_cons_succ]; try rfl
    case hf_107 => kernel_rfl
    case hQ_107 => exact fun _ _ _ h => h
    case hy_107 =>
      refine Or.inl ⟨by rfl, ?_⟩
      intro W hSw
      obtain ⟨q3x, q3y, q4x, q4y, q5x, q5y, q8x, q8y, q9x, q9y⟩ := hSw
      go_simp
      try with_reducible rfl
    try simp only [Act.put, List.setIfInBounds_toArray, List.set_cons_zero, List.set_cons_succ]
    refine wpAnyH_take (i := 8) (oi := ?oi_108) (v := ?_) ?hi_108 (by kernel_rfl) ?hf_108 (by kernel_rfl) ?hQ_108 ?hy_108 (by assumption) ?_
    case hi_108 => simp only [List.getElem?_toArray, List.getElem?_cons_zero, List.getElem?_cons_succ]; try rfl
    case hf_108 => kernel_rfl
    case hQ_108 => exact fun _ _ _ h => h
    case hy_108 =>
      refine Or.inl ⟨by rfl, ?_⟩
      intro W hSw
      obtain ⟨q3x, q3y, q4x, q4y, q5x, q5y, q8x, q8y, q9x, q9y⟩ := hSw
      go_simp
      try with_reducible rfl
    try simp only [Act.put, List.setIfInBounds_toArray, List.set_cons_zero, List.set_cons_succ]
    refine wpAnyH_take (i := 9) (oi := ?oi_109) (v := ?_) ?hi_109 (by kernel_rfl) ?hf_109 (by kernel_rfl) ?hQ_109 ?hy_109 (by assumption) ?_
    case hi_109 => simp only [List.getElem?_toArray, List.getElem?_cons_zero, List.getElem?_cons_succ]; try rfl
    case hf_109 => kernel_rfl
    case hQ_109 => exact fun _ _ _ h => h
    case hy_109 =>
      refine Or.inl ⟨by rfl, ?_⟩
      intro W hSw
      obtain ⟨q3x, q3y, q4x, q4y, q5x, q5y, q8x, q8y, q9x, q9y⟩ := hSw
      go_simp
      try with_reducible rfl
    try simp only [Act.put, List.setIfInBounds_toArray, List.set_cons_zero, List.set_cons_succ]
    refine wpAnyH_take (i := 10) (oi := ?oi_110) (v := undef) ?hi_110 (by kernel_rfl) ?hf_110 (by kernel_rfl) ?hQ_110 ?hy_110 (by assumption) ?_
    case hi_110 => simp only [List.getElem?_toArray, List.getElem?_cons_zero, List.getElem?_cons_succ]; try rfl
    case hf_110 => kernel_rfl
    case hQ_110 => exact fun _ _ _ h => h
    case hy_110 => exact Or.inr ⟨by rfl, rfl⟩
    try simp only [Act.put, List.setIfInBounds_toArray, List.set_cons_zero, List.set_cons_succ]
    refine wpAnyH_take (i := 11) (oi := ?oi_111) (v := undef) ?hi_111 (by kernel_rfl) ?hf_111 (by kernel_rfl) ?hQ_111 ?hy_111 (by assumption) ?_
    case hi_111 => simp only [List.getElem?_toArray, List.getElem?_cons_zero, List.getElem?_cons_succ]; try rfl
    case hf_111 => kernel_rfl
    case hQ_111 => exact fun _ _ _ h => h
    case hy_111 => exact Or.inr ⟨by rfl, rfl⟩
    try simp only [Act.put, List.setIfInBounds_toArray, List.set_cons_zero, List.set_cons_succ]
    refine wpAnyH_take (i := 12) (oi := ?oi_112) (v := undef) ?hi_112 (by kernel_rfl) ?hf_112 (by kernel_rfl) ?hQ_112 ?hy_112 (by assumption) ?_
    case hi_112 => simp only [List.getElem?_toArray, List.getElem?_cons_zero, List.getElem?_cons_succ]; try rfl
    case hf_112 => kernel_rfl
    case hQ_112 => exact fun _ _ _ h => h
    case hy_112 => exact Or.inr ⟨by rfl, rfl⟩
    try simp only [Act.put, List.setIfInBounds_toArray, List.set_cons_zero, List.set_cons_succ]
    refine wpAnyH_take (i := 13) (oi := ?oi_113) (v := undef) ?hi_113 (by kernel_rfl) ?hf_113 (by kernel_rfl) ?hQ_113 ?hy_113 (by assumption) ?_
    case hi_113 => simp only [List.getElem?_toArray, List.getElem?_cons_zero, List.getElem?_cons_succ]; try rfl
    case hf_113 => kernel_rfl
    case hQ_113 => exact fun _ _ _ h => h
    case hy_113 => exact Or.inr ⟨by rfl, rfl⟩
    try simp only [Act.put, List.setIfInBounds_toArray, List.set_cons_zero, List.set_cons_succ]
    refine wpAnyH_take (i := 14) (oi := ?oi_114) (v := undef) ?hi_114 (by kernel_rfl) ?hf_114 (by kernel_rfl) ?hQ_114 ?hy_114 (by assumption) ?_
    case hi_114 => simp only [List.getElem?_toArray, List.getElem?_cons_zero, List.getElem?_cons_succ]; try rfl
    case hf_114 => kernel_rfl
    case hQ_114 => exact fun _ _ _ h => h
    case hy_114 => exact Or.inr ⟨by rfl, rfl⟩
    try simp only [Act.put, List.setIfInBounds_toArray, List.set_cons_zero, List.set_cons_succ]
    refine wpAnyH_take (i := 15) (oi := ?oi_115) (v := undef) ?hi_115 (by kernel_rfl) ?hf_115 (by kernel_rfl) ?hQ_115 ?hy_115 (by assumption) ?_
    case hi_115 => simp only [List.getElem?_toArray, List.getElem?_cons_zero, List.getElem?_cons_succ]; try rfl
    case hf_115 => kernel_rfl
    case hQ_115 => exact fun _ _ _ h => h
    case hy_115 => exact Or.inr ⟨by rfl, rfl⟩
    try simp only [Act.put, List.setIfInBounds_toArray, List.set_cons_zero, List.set_cons_succ]
    refine wpAnyH_take (i := 16) (oi := ?oi_116) (v := undef) ?hi_116 (by kernel_rfl) ?hf_116 (by kernel_rfl) ?hQ_116 ?hy_116 (by assumption) ?_
    case hi_116 => simp only [List.getElem?_toArray, List.getElem?_cons_zero, List.getElem?_cons_succ]; try rfl
    case hf_116 => kernel_rfl
    case hQ_116 => exact fun _ _ _ h => h
    case hy_116 => exact Or.inr ⟨by rfl, rfl⟩
    try simp only [Act.put, List.setIfInBounds_toArray, List.set_cons_zero, List.set_cons_succ]
    refine wpAnyH_take (i := 17) (oi := ?oi_117) (v := undef) ?hi_117 (by kernel_rfl) ?hf_117 (by kernel_rfl) ?hQ_117 ?hy_117 (by assumption) ?_
    case hi_117 => simp only [List.getElem?_toArray, List.getElem?_cons_zero, List.getElem?_cons_succ]; try rfl
    case hf_117 => kernel_rfl
    case hQ_117 => exact fun _ _ _ h => h
    case hy_117 => exact Or.inr ⟨by rfl, rfl⟩
    try simp only [Act.put, List.setIfInBounds_toArray, List.set_cons_zero, List.set_cons_succ]
    refine wpAnyH_take (i := 18) (oi := ?oi_118) (v := undef) ?hi_118 (by kernel_rfl) ?hf_118 (by kernel_rfl) ?hQ_118 ?hy_118 (by assumption) ?_
    case hi_118 => simp only [List.getElem?_toArray, List.getElem?_cons_zero, List.getElem?_cons_succ]; try rfl
    case hf_118 => kernel_rfl
    case hQ_118 => exact fun _ _ _ h => h
    case hy_118 => exact Or.inr ⟨by rfl, rfl⟩
    try simp only [Act.put, List.setIfInBounds_toArray, List.set_cons_zero, List.set_cons_succ]
    refine wpAnyH_take (i := 19) (oi := ?oi_119) (v := ?_) ?hi_119 (by kernel_rfl) ?hf_119 (by kernel_rfl) ?hQ_119 ?hy_119 (by assumption) ?_
    case hi_119 => simp only [List.getElem?_toArray, List.getElem?_cons_zero, List.getElem?_cons_succ]; try rfl
    case hf_119 => kernel_rfl
    case hQ_119 => exact fun _ _ _ h => h
    case hy_119 =>
      refine Or.inl ⟨by rfl, ?_⟩
      intro W hSw
      obtain ⟨q3x, q3y, q4x, q4y, q5x, q5y, q8x, q8y, q9x, q9y⟩ := hSw
      go_simp
      try with_reducible rfl
    try simp only [Act.put, List.setIfInBounds_toArray, List.set_cons_zero, List.set_cons_succ]
    refine wpAnyH_take (i := 20) (oi := ?oi_120) (v := ?_) ?hi_120 (by kernel_rfl) ?hf_120 (by kernel_rfl) ?hQ_120 ?hy_120 (by assumption) ?_
    case hi_120 => simp only [List.getElem?_toArray, List.getElem?_cons_zero, List.getElem?_cons_succ]; try rfl
    case hf_120 => kernel_rfl
    case hQ_120 => exact fun _ _ _ h => h
    case hy_120 =>
      refine Or.inl ⟨by rfl, ?_⟩
      intro W hSw
      obtain ⟨q3x, q3y, q4x, q4y, q5x, q5y, q8x, q8y, q9x, q9y⟩ := hSw
      go_simp
      try with_reducible rfl
    try simp only [Act.put, List.setIfInBounds_toArray, List.set_cons_zero, List.set_cons_succ]
    refine wpAnyH_take (i := 21) (oi := ?oi_121) (v := undef) ?hi_121 (by kernel_rfl) ?hf_121 (by kernel_rfl) ?hQ_121 ?hy_121 (by assumption) ?_
    case hi_121 => simp only [List.getElem?_toArray, List.getElem?_cons_zero, List.getElem?_cons_succ]; try rfl
    case hf_121 => kernel_rfl
    case hQ_121 => exact fun _ _ _ h => h
    case hy_121 => exact Or.inr ⟨by rfl, rfl⟩
    try simp only [Act.put, List.setIfInBounds_toArray, List.set_cons_zero, List.set_cons_succ]
    refine wpAnyH_take (i := 22) (oi := ?oi_122) (v := undef) ?hi_122 (by kernel_rfl) ?hf_122 (by kernel_rfl) ?hQ_122 ?hy_122 (by assumption) ?_
    case hi_122 => simp only [List.getElem?_toArray, List.getElem?_cons_zero, List.getElem?_cons_succ]; try rfl
    case hf_122 => kernel_rfl
    case hQ_122 => exact fun _ _ _ h => h
    case hy_122 => exact Or.inr ⟨by rfl, rfl⟩
    try simp only [Act.put, List.setIfInBounds_toArray, List.set_cons_zero, List.set_cons_succ]
    refine wpAnyH_take (i := 23) (oi := ?oi_123) (v := undef) ?hi_123 (by kernel_rfl) ?hf_123 (by kernel_rfl) ?hQ_123 ?hy_123 (by assumption) ?_
    case hi_123 => simp only [List.getElem?_toArray, List.getElem?_cons_zero, List.getElem?_cons_succ]; try rfl
    case hf_123 => kernel_rfl
    case hQ_123 => exact fun _ _ _ h => h
    case hy_123 => exact Or.inr ⟨by rfl, rfl⟩
    try simp only [Act.put, List.setIfInBounds_toArray, List.set_cons_zero, List.set_cons_succ]
    refine wpAnyH_take (i := 24) (oi := ?oi_124) (v := undef) ?hi_124 (by kernel_rfl) ?hf_124 (by kernel_rfl) ?hQ_124 ?hy_124 (by assumption) ?_
    case hi_124 => simp only [List.getElem?_toArray, List.getElem?_cons_zero, List.getElem?_cons_succ]; try rfl
    case hf_124 => kernel_rfl
    case hQ_124 => exact fun _ _ _ h => h
    case hy_124 => exact Or.inr ⟨by rfl, rfl⟩
    try simp only [Act.put, List.setIfInBounds_toArray, List.set_cons_zero, List.set_cons_succ]
    refine wpAnyH_take (i := 25) (oi := ?oi_125) (v := undef) ?hi_125 (by kernel_rfl) ?hf_125 (by kernel_rfl) ?hQ_125 ?hy_125 (by assumption) ?_
    case hi_125 => simp only [List.getElem?_toArray, List.getElem?_cons_zero, List.getElem?_cons_succ]; try rfl
    case hf_125 => kernel_rfl
    case hQ_125 => exact fun _ _ _ h => h
    case hy_125 => exact Or.inr ⟨by rfl, rfl⟩
    try simp only [Act.put, List.setIfInBounds_toArray, List.set_cons_zero, List.set_cons_succ]
    refine wpAnyH_take (i := 26) (oi := ?oi_126) (v := undef) ?hi_126 (by kernel_rfl) ?hf_126 (by kernel_rfl) ?hQ_126 ?hy_126 (by assumption) ?_
    case hi_126 => simp only [List.getElem?_toArray, List.getElem?_cons_zero, List.getElem?_cons_succ]; try rfl
    case hf_126 => kernel_rfl
    case hQ_126 => exact fun _ _ _ h => h
    case hy_126 => exact Or.inr ⟨by rfl, rfl⟩
    try simp only [Act.put, List.setIfInBounds_toArray, List.set_cons_zero, List.set_cons_succ]
    refine wpAnyH_take (i := 27) (oi := ?oi_127) (v := undef) ?hi_127 (by kernel_rfl) ?hf_127 (by kernel_rfl) ?hQ_127 ?hy_127 (by assumption) ?_
    case hi_127 => simp only [List.getElem?_toArray, List.getElem?_cons_zero, List.getElem?_cons_succ]; try rfl
    case hf_127 => kernel_rfl
    case hQ_127 => exact fun _ _ _ h => h
    case hy_127 => exact Or.inr ⟨by rfl, rfl⟩
    try simp only [Act.put, List.setIfInBounds_toArray, List.set_cons_zero, List.set_cons_succ]
    refine wpAnyH_take (i := 28) (oi := ?oi_128) (v := undef) ?hi_128 (by kernel_rfl) ?hf_128 (by kernel_rfl) ?hQ_128 ?hy_128 (by assumption) ?_
    case hi_128 => simp only [List.getElem?_toArray, List.getElem?_cons_zero, List.getElem?_cons_succ]; try rfl
    case hf_128 => kernel_rfl
    case hQ_128 => exact fun _ _ _ h => h
    case hy_128 => exact Or.inr ⟨by rfl, rfl⟩
    try simp only [Act.put, List.setIfInBounds_toArray, List.set_cons_zero, List.set_cons_succ]
    refine wpAnyH_take (i := 29) (oi := ?oi_129) (v := undef) ?hi_129 (by kernel_rfl) ?hf_129 (by kernel_rfl) ?hQ_129 ?hy_129 (by assumption) ?_
    case hi_129 => simp only [List.getElem?_toArray, List.getElem?_cons_zero, List.getElem?_cons_succ]; try rfl
    case hf_129 => kernel_rfl
    case hQ_129 => exact fun _ _ _ h => h
    case hy_129 => exact Or.inr ⟨by rfl, rfl⟩
    try simp only [Act.put, List.setIfInBounds_toArray, List.set_cons_zero, List.set_cons_succ]
    refine wpAnyH_take (i := 30) (oi := ?oi_130) (v := ?_) ?hi_130 (by kernel_rfl) ?hf_130 (by kernel_rfl) ?hQ_130 ?hy_130 (by assumption) ?_
    case hi_130 => simp only [List.getElem?_toArray, List.getElem?_cons_zero, List.getElem?_cons_succ]; try rfl
    case hf_130 => kernel_rfl
    case hQ_130 => exact fun _ _ _ h => h
    case hy_130 =>
      refine Or.inl ⟨by rfl, ?_⟩
      intro W hSw
      obtain ⟨q3x, q3y, q4x, q4y, q5x, q5y, q8x, q8y, q9x, q9y⟩ := hSw
      go_simp
      try with_reducible rfl
    try simp only [Act.put, List.setIfInBounds_toArray, List.set_cons_zero, List.set_cons_succ]
    refine wpAnyH_take (i := 31) (oi := ?oi_131) (v := ?_) ?hi_131 (by kernel_rfl) ?hf_131 (by kernel_rfl) ?hQ_131 ?hy_131 (by assumption) ?_
    case hi_131 => simp only [List.getElem?_toArray, List.getElem?_cons_zero, List.getElem?_cons_succ]; try rfl
    case hf_131 => kernel_rfl
    case hQ_131 => exact fun _ _ _ h => h
    case hy_131 =>
      refine Or.inl ⟨by rfl, ?_⟩
      intro W hSw
      obtain ⟨q3x, q3y, q4x, q4y, q5x, q5y, q8x, q8y, q9x, q9y⟩ := hSw
      go_simp
      try with_reducible rfl
    try simp only [Act.put, List.setIfInBounds_toArray, List.set_cons_zero, List.set_cons_succ]
    refine wpAnyH_take (i := 32) (oi := ?oi_132) (v := undef) ?hi_132 (by kernel_rfl) ?hf_132 (by kernel_rfl) ?hQ_132 ?hy_132 (by assumption) ?_
    case hi_132 => simp only [List.getElem?_toArray, List.getElem?_cons_zero, List.getElem?_cons_succ]; try rfl
    case hf_132 => kernel_rfl
    case hQ_132 => exact fun _ _ _ h => h
    case hy_132 => exact Or.inr ⟨by rfl, rfl⟩
    try simp only [Act.put, List.setIfInBounds_toArray, List.set_cons_zero, List.set_cons_succ]
    refine wpAnyH_take (i := 33) (oi := ?oi_133) (v := undef) ?hi_133 (by kernel_rfl) ?hf_133 (by kernel_rfl) ?hQ_133 ?hy_133 (by assumption) ?_
    case hi_133 => simp only [List.getElem?_toArray, List.getElem?_cons_zero, List.getElem?_cons_succ]; try rfl
    case hf_133 => kernel_rfl
    case hQ_133 => exact fun _ _ _ h => h
    case hy_133 => exact Or.inr ⟨by rfl, rfl⟩
    try simp only [Act.put, List.setIfInBounds_toArray, List.set_cons_zero, List.set_cons_succ]
    refine wpAnyH_take (i := 34) (oi := ?oi_134) (v := undef) ?hi_134 (by kernel_rfl) ?hf_134 (by kernel_rfl) ?hQ_134 ?hy_134 (by assumption) ?_
    case hi_134 => simp only [List.getElem?_toArray, List.getElem?_cons_zero, List.getElem?_cons_succ]; try rfl
    case hf_134 => kernel_rfl
    case hQ_134 => exact fun _ _ _ h => h
    case hy_134 => exact Or.inr ⟨by rfl, rfl⟩
    try simp only [Act.put, List.setIfInBounds_toArray, List.set_cons_zero, List.set_cons_succ]
    refine wpAnyH_take (i := 35) (oi := ?oi_135) (v := undef) ?hi_135 (by kernel_rfl) ?hf_135 (by kernel_rfl) ?hQ_135 ?hy_135 (by assumption) ?_
    case hi_135 => simp only [List.getElem?_toArray, List.getElem?_cons_zero, List.getElem?_cons_succ]; try rfl
    case hf_135 => kernel_rfl
    case hQ_135 => exact fun _ _ _ h => h
    case hy_135 => exact Or.inr ⟨by rfl, rfl⟩
    try simp only [Act.put, List.setIfInBounds_toArray, List.set_cons_zero, List.set_cons_succ]
    refine wpAnyH_take (i := 36) (oi := ?oi_136) (v := undef) ?hi_136 (by kernel_rfl) ?hf_136 (by kernel_rfl) ?hQ_136 ?hy_136 (by assumption) ?_
    case hi_136 => simp only [List.getElem?_toArray, List.getElem?_cons_zero, List.getElem?_cons_succ]; try rfl
    case hf_136 => kernel_rfl
    case hQ_136 => exact fun _ _ _ h => h
    case hy_136 => exact Or.inr ⟨by rfl, rfl⟩
    try simp only [Act.put, List.setIfInBounds_toArray, List.set_cons_zero, List.set_cons_succ]
    refine wpAnyH_take (i := 37) (oi := ?oi_137) (v := undef) ?hi_137 (by kernel_rfl) ?hf_137 (by kernel_rfl) ?hQ_137 ?hy_137 (by assumption) ?_
    case hi_137 => simp only [List.getElem?_toArray, List.getElem?_cons_zero, List.getElem?_cons_succ]; try rfl
    case hf_137 => kernel_rfl
    case hQ_137 => exact fun _ _ _ h => h
    case hy_137 => exact Or.inr ⟨by rfl, rfl⟩
    try simp only [Act.put, List.setIfInBounds_toArray, List.set_cons_zero, List.set_cons_succ]
    refine wpAnyH_take (i := 38) (oi := ?oi_138) (v := undef) ?hi_138 (by kernel_rfl) ?hf_138 (by kernel_rfl) ?hQ_138 ?hy_138 (by assumption) ?_
    case hi_138 => simp only [List.getElem?_toArray, List.getElem?_cons_zero, List.getElem?_cons_succ]; try rfl
    case hf_138 => kernel_rfl
    case hQ_138 => exact fun _ _ _ h => h
    case hy_138 => exact Or.inr ⟨by rfl, rfl⟩
    try simp only [Act.put, List.setIfInBounds_toArray, List.set_cons_zero, List.set_cons_succ]
    refine wpAnyH_take (i := 39) (oi := ?oi_139) (v := undef) ?hi_139 (by kernel_rfl) ?hf_139 (by kernel_rfl) ?hQ_139 ?hy_139 (by assumption) ?_
    case hi_139 => simp only [List.getElem?_toArray, List.getElem?_cons_zero, List.getElem?_cons_succ]; try rfl
    case hf_139 => kernel_rfl
    case hQ_139 => exact fun _ _ _ h => h
    case hy_139 => exact Or.inr ⟨by rfl, rfl⟩
    try simp only [Act.put, List.setIfInBounds_toArray, List.set_cons_zero, List.set_cons_succ]
    refine wpAnyH_take (i := 40) (oi := ?oi_140) (v := undef) ?hi_140 (by kernel_rfl) ?hf_140 (by kernel_rfl) ?hQ_140 ?hy_140 (by assumption) ?_
    case hi_140 => simp only [List.getElem?_toArray, List.getElem?_cons_zero, List.getElem?_cons_succ]; try rfl
    case hf_140 => kernel_rfl
    case hQ_140 => exact fun _ _ _ h => h
    case hy_140 => exact Or.inr ⟨by rfl, rfl⟩
    try simp only [Act.put, List.setIfInBounds_toArray, List.set_cons_zero, List.set_cons_succ]
    refine wpAnyH_take (i := 41) (oi := ?oi_141) (v := undef) ?hi_141 (by kernel_rfl) ?hf_141 (by kernel_rfl) ?hQ_141 ?hy_141 (by assumption) ?_
    case hi_141 => simp only [List.getElem?_toArray, List.getElem?_cons_zero, List.getElem?_cons_succ]; try rfl
    case hf_141 => kernel_rfl
    case hQ_141 => exact fun _ _ _ h => h
    case hy_141 => exact Or.inr ⟨by rfl, rfl⟩
    try simp only [Act.put, List.setIfInBounds_toArray, List.set_cons_zero, List.set_cons_succ]
    refine wpAnyH_take (i := 42) (oi := ?oi_142) (v := ?_) ?hi_142 (by kernel_rfl) ?hf_142 (by kernel_rfl) ?hQ_142 ?hy_142 (by assumption) ?_
    case hi_142 => simp only [List.getElem?_toArray, List.getElem?_cons_zero, List.getElem?_cons_succ]; try rfl
    case hf_142 => kernel_rfl
    case hQ_142 => exact fun _ _ _ h => h
    case hy_142 =>
      refine Or.inl ⟨by rfl, ?_⟩
      intro W hSw
      obtain ⟨q3x, q3y, q4x, q4y, q5x, q5y, q8x, q8y, q9x, q9y⟩ := hSw
      go_simp
      try with_reducible rfl
    try simp only [Act.put, List.setIfInBounds_toArray, List.set_cons_zero, List.set_cons_succ]
    refine wpAnyH_take (i := 43) (oi := ?oi_143) (v := ?_) ?hi_143 (by kernel_rfl) ?hf_143 (by kernel_rfl) ?hQ_143 ?hy_143 (by assumption) ?_
    case hi_143 => simp only [List.getElem?_toArray, List.getElem?_cons_zero, List.getElem?_cons_succ]; try rfl
    case hf_143 => kernel_rfl
    case hQ_143 => exact fun _ _ _ h => h
    case hy_143 =>
      refine Or.inl ⟨by rfl, ?_⟩
      intro W hSw
      obtain ⟨q3x, q3y, q4x, q4y, q5x, q5y, q8x, q8y, q9x, q9y⟩ := hSw
      go_simp
      try with_reducible rfl
    try simp only [Act.put, List.setIfInBounds_toArray, List.set_cons_zero, List.set_cons_succ]
    refine wpAnyH_take (i := 44) (oi := ?oi_144) (v := undef) ?hi_144 (by kernel_rfl) ?hf_144 (by kernel_rfl) ?hQ_144 ?hy_144 (by assumption) ?_
    case hi_144 => simp only [List.getElem?_toArray, List.getElem?_cons_zero, List.getElem?_cons_succ]; try rfl
    case hf_144 => kernel_rfl
    case hQ_144 => exact fun _ _ _ h => h
    case hy_144 => exact Or.inr ⟨by rfl, rfl⟩
    try simp only [Act.put, List.setIfInBounds_toArray, List.set_cons_zero, List.set_cons_succ]
    refine wpAnyH_take (i := 45) (oi := ?oi_145) (v := undef) ?hi_145 (by kernel_rfl) ?hf_145 (by kernel_rfl) ?hQ_145 ?hy_145 (by assumption) ?_
    case hi_145 => simp only [List.getElem?_toArray, List.getElem?_cons_zero, List.getElem?_cons_succ]; try rfl
    case hf_145 => kernel_rfl
    case hQ_145 => exact fun _ _ _ h => h
    case hy_145 => exact Or.inr ⟨by rfl, rfl⟩
    try simp only [Act.put, List.setIfInBounds_toArray, List.set_cons_zero, List.set_cons_succ]
    refine wpAnyH_take (i := 46) (oi := ?oi_146) (v := undef) ?hi_146 (by kernel_rfl) ?hf_146 (by kernel_rfl) ?hQ_146 ?hy_146 (by assumption) ?_
    case hi_146 => simp only [List.getElem?_toArray, List.getElem?_cons_zero, List.getElem?_cons_succ]; try rfl
    case hf_146 => kernel_rfl
    case hQ_146 => exact fun _ _ _ h => h
    case hy_146 => exact Or.inr ⟨by rfl, rfl⟩
    try simp only [Act.put, List.setIfInBounds_toArray, List.set_cons_zero, List.set_cons_succ]
    refine wpAnyH_take (i := 47) (oi := ?oi_147) (v := undef) ?hi_147 (by kernel_rfl) ?hf_147 (by kernel_rfl) ?hQ_147 ?hy_147 (by assumption) ?_
    case hi_147 => simp only [List.getElem?_toArray, List.getElem?_cons_zero, List.getElem?_cons_succ]; try rfl
    case hf_147 => kernel_rfl
    case hQ_147 => exact fun _ _ _ h => h
    case hy_147 => exact Or.inr ⟨by rfl, rfl⟩
    try simp only [Act.put, List.setIfInBounds_toArray, List.set_cons_zero, List.set_cons_succ]
    refine wpAnyH_take (i := 48) (oi := ?oi_148) (v := undef) ?hi_148 (by kernel_rfl) ?hf_148 (by kernel_rfl) ?hQ_148 ?hy_148 (by assumption) ?_
    case hi_148 => simp only [List.getElem?_toArray, List.getElem?_cons_zero, List.getElem?_cons_succ]; try rfl
    case hf_148 => kernel_rfl
    case hQ_148 => exact fun _ _ _ h => h
    case hy_148 => exact Or.inr ⟨by rfl, rfl⟩
    try simp only [Act.put, List.setIfInBounds_toArray, List.set_cons_zero, List.set_cons_succ]
    refine wpAnyH_take (i := 49) (oi := ?oi_149) (v := undef) ?hi_149 (by kernel_rfl) ?hf_149 (by kernel_rfl) ?hQ_149 ?hy_149 (by assumption) ?_
    case hi_149 => simp only [List.getElem?_toArray, List.getElem?_cons_zero, List.getElem?_cons_succ]; try rfl
    case hf_149 => kernel_rfl
    case hQ_149 => exact fun _ _ _ h => h
    case hy_149 => exact Or.inr ⟨by rfl, rfl⟩
    try simp only [Act.put, List.setIfInBounds_toArray, List.set_cons_zero, List.set_cons_succ]
    refine wpAnyH_take (i := 50) (oi := ?oi_150) (v := undef) ?hi_150 (by kernel_rfl) ?hf_150 (by kernel_rfl) ?hQ_150 ?hy_150 (by assumption) ?_
    case hi_150 => simp only [List.getElem?_toArray, List.getElem?_cons_zero, List.getElem?_cons_succ]; try rfl
    case hf_150 => kernel_rfl
    case hQ_150 => exact fun _ _ _ h => h
    case hy_150 => exact Or.inr ⟨by rfl, rfl⟩
    try simp only [Act.put, List.setIfInBounds_toArray, List.set_cons_zero, List.set_cons_succ]
    refine wpAnyH_take (i := 51) (oi := ?oi_151) (v := undef) ?hi_151 (by kernel_rfl) ?hf_151 (by kernel_rfl) ?hQ_151 ?hy_151 (by assumption) ?_
    case hi_151 => simp only [List.getElem?_toArray, List.getElem?_cons_zero, List.getElem?_cons_succ]; try rfl
    case hf_151 => kernel_rfl
    case hQ_151 => exact fun _ _ _ h => h
    case hy_151 => exact Or.inr ⟨by rfl, rfl⟩
    try simp only [Act.put, List.setIfInBounds_toArray, List.set_cons_zero, List.set_cons_succ]
    refine wpAnyH_take (i := 52) (oi := ?oi_152) (v := undef) ?hi_152 (by kernel_rfl) ?hf_152 (by kernel_rfl) ?hQ_152 ?hy_152 (by assumption) ?_
    case hi_152 => simp only [List.getElem?_toArray, List.getElem?_cons_zero, List.getElem?_cons_succ]; try rfl
    case hf_152 => kernel_rfl
    case hQ_152 => exact fun _ _ _ h => h
    case hy_152 => exact Or.inr ⟨by rfl, rfl⟩
    try simp only [Act.put, List.setIfInBounds_toArray, List.set_cons_zero, List.set_cons_succ]
    refine wpAnyH_take (i := 53) (oi := ?oi_153) (v := undef) ?hi_153 (by kernel_rfl) ?hf_153 (by kernel_rfl) ?hQ_153 ?hy_153 (by assumption) ?_
    case hi_153 => simp only [List.getElem?_toArray, List.getElem?_cons_zero, List.getElem?_cons_succ]; try rfl
    case hf_153 => kernel_rfl
    case hQ_153 => exact fun _ _ _ h => h
    case hy_153 => exact Or.inr ⟨by rfl, rfl⟩
    try simp only [Act.put, List.setIfInBounds_toArray, List.set_cons_zero, List.set_cons_succ]
    refine wpAnyH_take (i := 54) (oi := ?oi_154) (v := ?_) ?hi_154 (by kernel_rfl) ?hf_154 (by kernel_rfl) ?hQ_154 ?hy_154 (by assumption) ?_
    case hi_154 => simp only [List.getElem?_toArray, List.getElem?_cons_zero, List.getElem?_cons_succ]; try rfl
    case hf_154 => kernel_rfl
    case hQ_154 => exact fun _ _ _ h => h
    case hy_154 =>
      refine Or.inl ⟨by rfl, ?_⟩
      intro W hSw
      obtain ⟨q3x, q3y, q4x, q4y, q5x, q5y, q8x, q8y, q9x, q9y⟩ := hSw
      go_simp
      try with_reducible rfl
    try simp only [Act.put, List.setIfInBounds_toArray, List.set_cons_zero, List.set_cons_succ]
    refine wpAnyH_take (i := 55) (oi := ?oi_155) (v := ?_) ?hi_155 (by kernel_rfl) ?hf_155 (by kernel_rfl) ?hQ_155 ?hy_155 (by assumption) ?_
    case hi_155 => simp only [List.getElem?_toArray, List.getElem?_cons_zero, List.getElem?_cons_succ]; try rfl
    case hf_155 => kernel_rfl
    case hQ_155 => exact fun _ _ _ h => h
    case hy_155 =>
      refine Or.inl ⟨by rfl, ?_⟩
      intro W hSw
      obtain ⟨q3x, q3y, q4x, q4y, q5x, q5y, q8x, q8y, q9x, q9y⟩ := hSw
      go_simp
      try with_reducible rfl
    try simp only [Act.put, List.setIfInBounds_toArray, List.set_cons_zero, List.set_cons_succ]
    refine wpAnyH_done (by kernel_rfl) ?_ _
    clear hHeld
    go_wp2
    go_ret
    exact ⟨rfl, HD.out⟩
  subst hq
  rw [show decide (tabx = tabx) = true from by simp]
  simp only [Bool.true_and]
  cases r0 with
  | false =>
    simp only [Bool.false_and]
    go_enter Try.func36, Try.ntmps36
    go_wp2_with fail
    refine wp_region_held_drew (S := (fun W => W.cell? ⟨gx, 3, none⟩ = some (.int .i64 tabx) ∧ W.cell? ⟨gy, 3, none⟩ = some (.int .i64 tabx) ∧ W.cell? ⟨gx, 4, none⟩ = some (.slice xA4 xn4 xc4) ∧ W.cell? ⟨gy, 4, none⟩ = some (.slice yA4 yn4 yc4) ∧ W.cell? ⟨gx, 5, none⟩ = some (.slice xA5 xn5 xc5) ∧ W.cell? ⟨gy, 5, none⟩ = some (.slice yA5 yn5 yc5) ∧ W.cell? ⟨gx, 8, none⟩ = some (.slice xA8 xn8 xc8) ∧ W.cell? ⟨gy, 8, none⟩ = some (.slice yA8 yn8 yc8) ∧ W.cell? ⟨gx, 9, none⟩ = some (.slice xA9 xn9 xc9) ∧ W.cell? ⟨gy, 9, none⟩ = some (.slice yA9 yn9 yc9))) (by kernel_rfl) ⟨HX.out.cell 3, HY.out.cell 3, HX.out.cell 4, HY.out.cell 4, HX.out.cell 5, HY.out.cell 5, HX.out.cell 8, HY.out.cell 8, HX.out.cell 9, HY.out.cell 9⟩ (fun hHeld => ?_)
    refine wpAnyH_take (i := 0) (oi := ?oi_156) (v := ?_) ?hi_156 (by kernel_rfl) ?hf_156 (by kernel_rfl) ?hQ_156 ?hy_156 (by assumption) ?_
    case hi_156 => simp only [List.getElem?_toArray, List.getElem?_cons_zero, List.getElem?_cons_succ]; try rfl
    case hf_156 => kernel_rfl
    case hQ_156 => exact fun _ _ _ h => h
    case hy_156 =>
      refine Or.inl ⟨by rfl, ?_⟩
      intro W hSw
      obtain ⟨q3x, q3y, q4x, q4y, q5x, q5y, q8x, q8y, q9x, q9y⟩ := hSw
      go_simp
      try with_reducible rfl
    try simp only [Act.put, List.setIfInBounds_toArray, List.set_cons_zero, List.set_cons_succ]
    refine wpAnyH_take (i := 1) (oi := ?oi_157) (v := ?_) ?hi_157 (by kernel_rfl) ?hf_157 (by kernel_rfl) ?hQ_157 ?hy_157 (by assumption) ?_
    case hi_157 => simp only [List.getElem?_toArray, List.getElem?_cons_zero, List.getElem?_cons_succ]; try rfl
    case hf_157 => kernel_rfl
    case hQ_157 => exact fun _ _ _ h => h
    case hy_157 =>
      refine Or.inl ⟨by rfl, ?_⟩
      intro W hSw
      obtain ⟨q3x, q3y, q4x, q4y, q5x, q5y, q8x, q8y, q9x, q9y⟩ := hSw
      go_simp
      try with_reducible rfl
    try simp only [Act.put, List.setIfInBounds_toArray, List.set_cons_zero, List.set_cons_succ]
    refine wpAnyH_take (i := 2) (oi := ?oi_158) (v := ?_) ?hi_158 (by kernel_rfl) ?hf_158 (by kernel_rfl) ?hQ_158 ?hy_158 (by assumption) ?_
    case hi_158 => simp only [List.getElem?_toArray, List.getElem?_cons_zero, List.getElem?_cons_succ]; try rfl
    case hf_158 => kernel_rfl
    case hQ_158 => exact fun _ _ _ h => h
    case hy_158 =>
      refine Or.inl ⟨by rfl, ?_⟩
      intro W hSw
      obtain ⟨q3x, q3y, q4x, q4y, q5x, q5y, q8x, q8y, q9x, q9y⟩ := hSw
      go_simp
      try with_reducible rfl
    try simp only [Act.put, List.setIfInBounds_toArray, List.set_cons_zero, List.set_cons_succ]
    refine wpAnyH_take (i := 3) (oi := ?oi_159) (v := ?_) ?hi_159 (by kernel_rfl) ?hf_159 (by kernel_rfl) ?hQ_159 ?hy_159 (by assumption) ?_
    case hi_159 => simp only [List.getElem?_toArray, List.getElem?_cons_zero, List.getElem?_cons_succ]; try rfl
    case hf_159 => kernel_rfl
    case hQ_159 => exact fun _ _ _ h => h
    case hy_159 =>
      refine Or.inl ⟨by rfl, ?_⟩
      intro W hSw
      obtain ⟨q3x, q3y, q4x, q4y, q5x, q5y, q8x, q8y, q9x, q9y⟩ := hSw
      go_simp
      try with_reducible rfl
    try simp only [Act.put, List.setIfInBounds_toArray, List.set_cons_zero, List.set_cons_succ]
    refine wpAnyH_take (i := 4) (oi := ?oi_160) (v := ?_) ?hi_160 (by kernel_rfl) ?hf_160 (by kernel_rfl) ?hQ_160 ?hy_160 (by assumption) ?_
    case hi_160 => simp only [List.getElem?_toArray, List.getElem?_cons_zero, List.getElem?_cons_succ]; try rfl
    case hf_160 => kernel_rfl
    case hQ_160 => exact fun _ _ _ h => h
    case hy_160 =>
      refine Or.inl ⟨by rfl, ?_⟩
      intro W hSw
      obtain ⟨q3x, q3y, q4x, q4y, q5x, q5y, q8x, q8y, q9x, q9y⟩ := hSw
      go_simp
      try with_reducible rfl
    try simp only [Act.put, List.setIfInBounds_toArray, List.set_cons_zero, List.set_cons_succ]
    refine wpAnyH_take (i := 5) (oi := ?oi_161) (v := ?_) ?hi_161 (by kernel_rfl) ?hf_161 (by kernel_rfl) ?hQ_161 ?hy_161 (by assumption) ?_
    case hi_161 => simp only [List.getElem?_toArray, List.getElem?_cons_zero, List.getElem?_cons_succ]; try rfl
    case hf_161 => kernel_rfl
    case hQ_161 => exact fun _ _ _ h => h
    case hy_161 =>
      refine Or.inl ⟨by rfl, ?_⟩
      intro W hSw
      obtain ⟨q3x, q3y, q4x, q4y, q5x, q5y, q8x, q8y, q9x, q9y⟩ := hSw
      go_simp
      try with_reducible rfl
    try simp only [Act.put, List.setIfInBounds_toArray, List.set_cons_zero, List.set_cons_succ]
    refine wpAnyH_take (i := 6) (oi := ?oi_162) (v := ?_) ?hi_162 (by kernel_rfl) ?hf_162 (by kernel_rfl) ?hQ_162 ?hy_162 (by assumption) ?_
    case hi_162 => simp only [List.getElem?_toArray, List.getElem?_cons_zero, List.getElem?_cons_succ]; try rfl
    case hf_162 => kernel_rfl
    case hQ_162 => exact fun _ _ _ h => h
    case hy_162 =>
      refine Or.inl ⟨by rfl, ?_⟩
      intro W hSw
      obtain ⟨q3x, q3y, q4x, q4y, q5x, q5y, q8x, q8y, q9x, q9y⟩ := hSw
      go_simp
      try with_reducible rfl
    try simp only [Act.put, List.setIfInBounds_toArray, List.set_cons_zero, List.set_cons_succ]
    refine wpAnyH_take (i := 7) (oi := ?oi_163) (v := ?_) ?hi_163 (by kernel_rfl) ?hf_163 (by kernel_rfl) ?hQ_163 ?hy_163 (by assumption) ?_
    case hi_163 => simp only [List.getElem?_toArray, List.getElem?_cons_zero, List.getElem?_cons_succ]; try rfl
    case hf_163 => kernel_rfl
    case hQ_163 => exact fun _ _ _ h => h
    case hy_163 =>
      refine Or.inl ⟨by rfl, ?_⟩
      intro W hSw
      obtain ⟨q3x, q3y, q4x, q4y, q5x, q5y, q8x, q8y, q9x, q9y⟩ := hSw
      go_simp
      try with_reducible rfl
    try simp only [Act.put, List.setIfInBounds_toArray, List.set_cons_zero, List.set_cons_succ]
    refine wpAnyH_take (i := 8) (oi := ?oi_164) (v := ?_) ?hi_164 (by kernel_rfl) ?hf_164 (by kernel_rfl) ?hQ_164 ?hy_164 (by assumption) ?_
    case hi_164 => simp only [List.getElem?_toArray, List.getElem?_cons_zero, List.getElem?_cons_succ]; try rfl
    case hf_164 => kernel_rfl
    case hQ_164 => exact fun _ _ _ h => h
    case hy_164 =>
      refine Or.inl ⟨by rfl, ?_⟩
      intro W hSw
      obtain ⟨q3x, q3y, q4x, q4y, q5x, q5y, q8x, q8y, q9x, q9y⟩ := hSw
      go_simp
      try with_reducible rfl
    try simp only [Act.put, List.setIfInBounds_toArray, List.set_cons_zero, List.set_cons_succ]
    refine wpAnyH_take (i := 9) (oi := ?oi_165) (v := ?_) ?hi_165 (by kernel_rfl) ?hf_165 (by kernel_rfl) ?hQ_165 ?hy_165 (by assumption) ?_
    case hi_165 => simp only [List.getElem?_toArray, List.getElem?_cons_zero, List.getElem?_cons_succ]; try rfl
    case hf_165 => kernel_rfl
    case hQ_165 => exact fun _ _ _ h => h
    case hy_165 =>
      refine Or.inl ⟨by rfl, ?_⟩
      intro W hSw
      obtain ⟨q3x, q3y, q4x, q4y, q5x, q5y, q8x, q8y, q9x, q9y⟩ := hSw
      go_simp
      try with_reducible rfl
    try simp only [Act.put, List.setIfInBounds_toArray, List.set_cons_zero, List.set_cons_succ]
    refine wpAnyH_take (i := 10) (oi := ?oi_166) (v := ?_) ?hi_166 (by kernel_rfl) ?hf_166 (by kernel_rfl) ?hQ_166 ?hy_166 (by assumption) ?_
    case hi_166 => simp only [List.getElem?_toArray, List.getElem?_cons_zero, List.getElem?_cons_succ]; try rfl
    case hf_166 => kernel_rfl
    case hQ_166 => exact fun _ _ _ h => h
    case hy_166 =>
      refine Or.inl ⟨by rfl, ?_⟩
      intro W hSw
      obtain ⟨q3x, q3y, q4x, q4y, q5x, q5y, q8x, q8y, q9x, q9y⟩ := hSw
      go_simp
      try with_reducible rfl
    try simp only [Act.put, List.setIfInBounds_toArray, List.set_cons_zero, List.set_cons_succ]
    refine wpAnyH_take (i := 11) (oi := ?oi_167) (v := ?_) ?hi_167 (by kernel_rfl) ?hf_167 (by kernel_rfl) ?hQ_167 ?hy_167 (by assumption) ?_
    case hi_167 => simp only [List.getElem?_toArray, List.getElem?_cons_zero, List.getElem?_cons_succ]; try rfl
    case hf_167 => kernel_rfl
    case hQ_167 => exact fun _ _ _ h => h
    case hy_167 =>
      refine Or.inl ⟨by rfl, ?_⟩
      intro W hSw
      obtain ⟨q3x, q3y, q4x, q4y, q5x, q5y, q8x, q8y, q9x, q9y⟩ := hSw
      go_simp
      try with_reducible rfl
    try simp only [Act.put, List.setIfInBounds_toArray, List.set_cons_zero, List.set_cons_succ]
    refine wpAnyH_take (i := 12) (oi := ?oi_168) (v := ?_) ?hi_168 (by kernel_rfl) ?hf_168 (by kernel_rfl) ?hQ_168 ?hy_168 (by assumption) ?_
    case hi_168 => simp only [List.getElem?_toArray, List.getElem?_cons_zero, List.getElem?_cons_succ]; try rfl
    case hf_168 => kernel_rfl
    case hQ_168 => exact fun _ _ _ h => h
    case hy_168 =>
      refine Or.inl ⟨by rfl, ?_⟩
      intro W hSw
      obtain ⟨q3x, q3y, q4x, q4y, q5x, q5y, q8x, q8y, q9x, q9y⟩ := hSw
      go_simp
      try with_reducible rfl
    try simp only [Act.put, List.setIfInBounds_toArray, List.set_cons_zero, List.set_cons_succ]
    refine wpAnyH_take (i := 13) (oi := ?oi_169) (v := ?_) ?hi_169 (by kernel_rfl) ?hf_169 (by kernel_rfl) ?hQ_169 ?hy_169 (by assumption) ?_
    case hi_169 => simp only [List.getElem?_toArray, List.getElem?_cons_zero, List.getElem?_cons_succ]; try rfl
    case hf_169 => kernel_rfl
    case hQ_169 => exact fun _ _ _ h => h
    case hy_169 =>
      refine Or.inl ⟨by rfl, ?_⟩
      intro W hSw
      obtain ⟨q3x, q3y, q4x, q4y, q5x, q5y, q8x, q8y, q9x, q9y⟩ := hSw
      go_simp
      try with_reducible rfl
    try simp only [Act.put, List.setIfInBounds_toArray, List.set_cons_zero, List.set_cons_succ]
    refine wpAnyH_take (i := 14) (oi := ?oi_170) (v := ?_) ?hi_170 (by kernel_rfl) ?hf_170 (by kernel_rfl) ?hQ_170 ?hy_170 (by assumption) ?_
    case hi_170 => simp only [List.getElem?_toArray, List.getElem?_cons_zero, List.getElem?_cons_succ]; try rfl
    case hf_170 => kernel_rfl
    case hQ_170 => exact fun _ _ _ h => h
    case hy_170 =>
      refine Or.inl ⟨by rfl, ?_⟩
      intro W hSw
      obtain ⟨q3x, q3y, q4x, q4y, q5x, q5y, q8x, q8y, q9x, q9y⟩ := hSw
      go_simp
      try with_reducible rfl
    try simp only [Act.put, List.setIfInBounds_toArray, List.set_cons_zero, List.set_cons_succ]
    refine wpAnyH_take (i := 15) (oi := ?oi_171) (v := ?_) ?hi_171 (by kernel_rfl) ?hf_171 (by kernel_rfl) ?hQ_171 ?hy_171 (by assumption) ?_
    case hi_171 => simp only [List.getElem?_toArray, List.getElem?_cons_zero, List.getElem?_cons_succ]; try rfl
    case hf_171 => kernel_rfl
    case hQ_171 => exact fun _ _ _ h => h
    case hy_171 =>
      refine Or.inl ⟨by rfl, ?_⟩
      intro W hSw
      obtain ⟨q3x, q3y, q4x, q4y, q5x, q5y, q8x, q8y, q9x, q9y⟩ := hSw
      go_simp
      try with_reducible rfl
    try simp only [Act.put, List.setIfInBounds_toArray, List.set_cons_zero, List.set_cons_succ]
    refine wpAnyH_take (i := 16) (oi := ?oi_172) (v := ?_) ?hi_172 (by kernel_rfl) ?hf_172 (by kernel_rfl) ?hQ_172 ?hy_172 (by assumption) ?_
    case hi_172 => simp only [List.getElem?_toArray, List.getElem?_cons_zero, List.getElem?_cons_succ]; try rfl
    case hf_172 => kernel_rfl
    case hQ_172 => exact fun _ _ _ h => h
    case hy_172 =>
      refine Or.inl ⟨by rfl, ?_⟩
      intro W hSw
      obtain ⟨q3x, q3y, q4x, q4y, q5x, q5y, q8x, q8y, q9x, q9y⟩ := hSw
      go_simp
      try with_reducible rfl
    try simp only [Act.put, List.setIfInBounds_toArray, List.set_cons_zero, List.set_cons_succ]
    refine wpAnyH_take (i := 17) (oi := ?oi_173) (v := ?_) ?hi_173 (by kernel_rfl) ?hf_173 (by kernel_rfl) ?hQ_173 ?hy_173 (by assumption) ?_
    case hi_173 => simp only [List.getElem?_toArray, List.getElem?_cons_zero, List.getElem?_cons_succ]; try rfl
    case hf_173 => kernel_rfl
    case hQ_173 => exact fun _ _ _ h => h
    case hy_173 =>
      refine Or.inl ⟨by rfl, ?_⟩
      intro W hSw
      obtain ⟨q3x, q3y, q4x, q4y, q5x, q5y, q8x, q8y, q9x, q9y⟩ := hSw
      go_simp
      try with_reducible rfl
    try simp only [Act.put, List.setIfInBounds_toArray, List.set_cons_zero, List.set_cons_succ]
    refine wpAnyH_ready (rs := [18]) (by kernel_rfl) (by simp) ?_
    refine AllReadyH.cons (o := ?oi_174) ?hi_174 (fun K hK => ?_) AllReadyH.nil
    case hi_174 => simp only [List.getElem?_toArray, List.getElem?_cons_zero, List.getElem?_cons_succ]; try rfl
    go_simp
    (go_at_call 58
     with_reducible refine (E0.out _ HD.out).mono ?_
     rintro e w1 ⟨rfl, hb1⟩
     have HB1 : Hid (Below w.heap.size w w1) := Lib.hid (HD.out.trans (hb1.mono HD.out.size))
     clear hb1)
    refine hK.out _ _ ⟨(HX.out.below HB1.out HX.out.lt).cell 3, (HY.out.below HB1.out HY.out.lt).cell 3, (HX.out.below HB1.out HX.out.lt).cell 4, (HY.out.below HB1.out HY.out.lt).cell 4, (HX.out.below HB1.out HX.out.lt).cell 5, (HY.out.below HB1.out HY.out.lt).cell 5, (HX.out.below HB1.out HX.out.lt).cell 8, (HY.out.below HB1.out HY.out.lt).cell 8, (HX.out.below HB1.out HX.out.lt).cell 9, (HY.out.below HB1.out HY.out.lt).cell 9⟩ (fun hHeld => ?_)
    clear hK K
    try simp only [Act.put, List.setIfInBounds_toArray, List.set_cons_zero, List.set_cons_succ]
    refine wpAnyH_take (i := 19) (oi := ?oi_175) (v := ?_) ?hi_175 (by kernel_rfl) ?hf_175 (by kernel_rfl) ?hQ_175 ?hy_175 (by assumption) ?_
    case hi_175 => simp only [List.getElem?_toArray, List.getElem?_cons_zero, List.getElem?_cons_succ]; try rfl
    case hf_175 => kernel_rfl
    case hQ_175 => exact fun _ _ _ h => h
    case hy_175 =>
      refine Or.inl ⟨by rfl, ?_⟩
      intro W hSw
      obtain ⟨q3x, q3y, q4x, q4y, q5x, q5y, q8x, q8y, q9x, q9y⟩ := hSw
      go_simp
      try with_reducible rfl
    try simp only [Act.put, List.setIfInBounds_toArray, List.set_cons_zero, List.set_cons_succ]
    refine wpAnyH_take (i := 20) (oi := ?oi_176) (v := ?_) ?hi_176 (by kernel_rfl) ?hf_176 (by kernel_rfl) ?hQ_176 ?hy_176 (by assumption) ?_
    case hi_176 => simp only [List.getElem?_toArray, List.getElem?_cons_zero, List.getElem?_cons_succ]; try rfl
    case hf_176 => kernel_rfl
    case hQ_176 => exact fun _ _ _ h => h
    case hy_176 =>
      refine Or.inl ⟨by rfl, ?_⟩
      intro W hSw
      obtain ⟨q3x, q3y, q4x, q4y, q5x, q5y, q8x, q8y, q9x, q9y⟩ := hSw
      go_simp
      try with_reducible rfl
    try simp only [Act.put, List.setIfInBounds_toArray, List.set_cons_zero, List.set_cons_succ]
    refine wpAnyH_take (i := 21) (oi := ?oi_177) (v := undef) ?hi_177 (by kernel_rfl) ?hf_177 (by kernel_rfl) ?hQ_177 ?hy_177 (by assumption) ?_
    case hi_177 => simp only [List.getElem?_toArray, List.getElem?_cons_zero, List.getElem?_cons_succ]; try rfl
    case hf_177 => kernel_rfl
    case hQ_177 => exact fun _ _ _ h => h
    case hy_177 => exact Or.inr ⟨by rfl, rfl⟩
    try simp only [Act.put, List.setIfInBounds_toArray, List.set_cons_zero, List.set_cons_succ]
    refine wpAnyH_take (i := 22) (oi := ?oi_178) (v := undef) ?hi_178 (by kernel_rfl) ?hf_178 (by kernel_rfl) ?hQ_178 ?hy_178 (by assumption) ?_
    case hi_178 => simp only [List.getElem?_toArray, List.getElem?_cons_zero, List.getElem?_cons_succ]; try rfl
    case hf_178 => kernel_rfl
    case hQ_178 => exact fun _ _ _ h => h
    case hy_178 => exact Or.inr ⟨by rfl, rfl⟩
    try simp only [Act.put, List.setIfInBounds_toArray, List.set_cons_zero, List.set_cons_succ]
    refine wpAnyH_take (i := 23) (oi := ?oi_179) (v := undef) ?hi_179 (by kernel_rfl) ?hf_179 (by kernel_rfl) ?hQ_179 ?hy_179 (by assumption) ?_
    case hi_179 => simp only [List.getElem?_toArray, List.getElem?_cons_zero, List.getElem?_cons_succ]; try rfl
    case hf_179 => kernel_rfl
    case hQ_179 => exact fun _ _ _ h => h
    case hy_179 => exact Or.inr ⟨by rfl, rfl⟩
    try simp only [Act.put, List.setIfInBounds_toArray, List.set_cons_zero, List.set_cons_succ]
    refine wpAnyH_take (i := 24) (oi := ?oi_180) (v := undef) ?hi_180 (by kernel_rfl) ?hf_180 (by kernel_rfl) ?hQ_180 ?hy_180 (by assumption) ?_
    case hi_180 => simp only [List.getElem?_toArray, List.getElem?_cons_zero, List.getElem?_cons_succ]; try rfl
    case hf_180 => kernel_rfl
    case hQ_180 => exact fun _ _ _ h => h
    case hy_180 => exact Or.inr ⟨by rfl, rfl⟩
    try simp only [Act.put, List.setIfInBounds_toArray, List.set_cons_zero, List.set_cons_succ]
    refine wpAnyH_take (i := 25) (oi := ?oi_181) (v := undef) ?hi_181 (by kernel_rfl) ?hf_181 (by kernel_rfl) ?hQ_181 ?hy_181 (by assumption) ?_
    case hi_181 => simp only [List.getElem?_toArray, List.getElem?_cons_zero, List.getElem?_cons_succ]; try rfl
    case hf_181 => kernel_rfl
    case hQ_181 => exact fun _ _ _ h => h
    case hy_181 => exact Or.inr ⟨by rfl, rfl⟩
    try simp only [Act.put, List.setIfInBounds_toArray, List.set_cons_zero, List.set_cons_succ]
    refine wpAnyH_take (i := 26) (oi := ?oi_182) (v := undef) ?hi_182 (by kernel_rfl) ?hf_182 (by kernel_rfl) ?hQ_182 ?hy_182 (by assumption) ?_
    case hi_182 => simp only [List.getElem?_toArray, List.getElem?_cons_zero, List.getElem?_cons_succ]; try rfl
    case hf_182 => kernel_rfl
    case hQ_182 => exact fun _ _ _ h => h
    case hy_182 => exact Or.inr ⟨by rfl, rfl⟩
    try simp only [Act.put, List.setIfInBounds_toArray, List.set_cons_zero, List.set_cons_succ]
    refine wpAnyH_take (i := 27) (oi := ?oi_183) (v := undef) ?hi_183 (by kernel_rfl) ?hf_183 (by kernel_rfl) ?hQ_183 ?hy_183 (by assumption) ?_
    case hi_183 => simp only [List.getElem?_toArray, List.getElem?_cons_zero, List.getElem?_cons_succ]; try rfl
    case hf_183 => kernel_rfl
    case hQ_183 => exact fun _ _ _ h => h
    case hy_183 => exact Or.inr ⟨by rfl, rfl⟩
    try simp only [Act.put, List.setIfInBounds_toArray, List.set_cons_zero, List.set_cons_succ]
    refine wpAnyH_take (i := 28) (oi := ?oi_184) (v := undef) ?hi_184 (by kernel_rfl) ?hf_184 (by kernel_rfl) ?hQ_184 ?hy_184 (by assumption) ?_
    case hi_184 => simp only [List.getElem?_toArray, List.getElem?_cons_zero, List.getElem?_cons_succ]; try rfl
    case hf_184 => kernel_rfl
    case hQ_184 => exact fun _ _ _ h => h
    case hy_184 => exact Or.inr ⟨by rfl, rfl⟩
    try simp only [Act.put, List.setIfInBounds_toArray, List.set_cons_zero, List.set_cons_succ]
    refine wpAnyH_take (i := 29) (oi := ?oi_185) (v := undef) ?hi_185 (by kernel_rfl) ?hf_185 (by kernel_rfl) ?hQ_185 ?hy_185 (by assumption) ?_
    case hi_185 => simp only [List.getElem?_toArray, List.getElem?_cons_zero, List.getElem?_cons_succ]; try rfl
    case hf_185 => kernel_rfl
    case hQ_185 => exact fun _ _ _ h => h
    case hy_185 => exact Or.inr ⟨by rfl, rfl⟩
    try simp only [Act.put, List.setIfInBounds_toArray, List.set_cons_zero, List.set_cons_succ]
    refine wpAnyH_take (i := 30) (oi := ?oi_186) (v := ?_) ?hi_186 (by kernel_rfl) ?hf_186 (by kernel_rfl) ?hQ_186 ?hy_186 (by assumption) ?_
    case hi_186 => simp only [List.getElem?_toArray, List.getElem?_cons_zero, List.getElem?_cons_succ]; try rfl
    case hf_186 => kernel_rfl
    case hQ_186 => exact fun _ _ _ h => h
    case hy_186 =>
      refine Or.inl ⟨by rfl, ?_⟩
      intro W hSw
      obtain ⟨q3x, q3y, q4x, q4y, q5x, q5y, q8x, q8y, q9x, q9y⟩ := hSw
      go_simp
      try with_reducible rfl
    try simp only [Act.put, List.setIfInBounds_toArray, List.set_cons_zero, List.set_cons_succ]
    refine wpAnyH_take (i := 31) (oi := ?oi_187) (v := ?_) ?hi_187 (by kernel_rfl) ?hf_187 (by kernel_rfl) ?hQ_187 ?hy_187 (by assumption) ?_
    case hi_187 => simp only [List.getElem?_toArray, List.getElem?_cons_zero, List.getElem?_cons_succ]; try rfl
    case hf_187 => kernel_rfl
    case hQ_187 => exact fun _ _ _ h => h
    case hy_187 =>
      refine Or.inl ⟨by rfl, ?_⟩
      intro W hSw
      obtain ⟨q3x, q3y, q4x, q4y, q5x, q5y, q8x, q8y, q9x, q9y⟩ := hSw
      go_simp
      try with_reducible rfl
    try simp only [Act.put, List.setIfInBounds_toArray, List.set_cons_zero, List.set_cons_succ]
    refine wpAnyH_take (i := 32) (oi := ?oi_188) (v := undef) ?hi_188 (by kernel_rfl) ?hf_188 (by kernel_rfl) ?hQ_188 ?hy_188 (by assumption) ?_
    case hi_188 => simp only [List.getElem?_toArray, List.getElem?_cons_zero, List.getElem?_cons_succ]; try rfl
    case hf_188 => kernel_rfl
    case hQ_188 => exact fun _ _ _ h => h
    case hy_188 => exact Or.inr ⟨by rfl, rfl⟩
    try simp only [Act.put, List.setIfInBounds_toArray, List.set_cons_zero, List.set_cons_succ]
    refine wpAnyH_take (i := 33) (oi := ?oi_189) (v := undef) ?hi_189 (by kernel_rfl) ?hf_189 (by kernel_rfl) ?hQ_189 ?hy_189 (by assumption) ?_
    case hi_189 => simp only [List.getElem?_toArray, List.getElem?_cons_zero, List.getElem?_cons_succ]; try rfl
    case hf_189 => kernel_rfl
    case hQ_189 => exact fun _ _ _ h => h
    case hy_189 => exact Or.inr ⟨by rfl, rfl⟩
    try simp only [Act.put, List.setIfInBounds_toArray, List.set_cons_zero, List.set_cons_succ]
    refine wpAnyH_take (i := 34) (oi := ?oi_190) (v := undef) ?hi_190 (by kernel_rfl) ?hf_190 (by kernel_rfl) ?hQ_190 ?hy_190 (by assumption) ?_
    case hi_190 => simp only [List.getElem?_toArray, List.getElem?_cons_zero, List.getElem?_cons_succ]; try rfl
    case hf_190 => kernel_rfl
    case hQ_190 => exact fun _ _ _ h => h
    case hy_190 => exact Or.inr ⟨by rfl, rfl⟩
    try simp only [Act.put, List.setIfInBounds_toArray, List.set_cons_zero, List.set_cons_succ]
    refine wpAnyH_take (i := 35) (oi := ?oi_191) (v := undef) ?hi_191 (by kernel_rfl) ?hf_191 (by kernel_rfl) ?hQ_191 ?hy_191 (by assumption) ?_
    case hi_191 => simp only [List.getElem?_toArray, List.getElem?_cons_zero, List.getElem?_cons_succ]; try rfl
    case hf_191 => kernel_rfl
    case hQ_191 => exact fun _ _ _ h => h
    case hy_191 => exact Or.inr ⟨by rfl, rfl⟩
    try simp only [Act.put, List.setIfInBounds_toArray, List.set_cons_zero, List.set_cons_succ]
    refine wpAnyH_take (i := 36) (oi := ?oi_192) (v := undef) ?hi_192 (by kernel_rfl) ?hf_192 (by kernel_rfl) ?hQ_192 ?hy_192 (by assumption) ?_
    case hi_192 => simp only [List.getElem?_toArray, List.getElem?_cons_zero, List.getElem?_cons_succ]; try rfl
    case hf_192 => kernel_rfl
    case hQ_192 => exact fun _ _ _ h => h
    case hy_192 => exact Or.inr ⟨by rfl, rfl⟩
    try simp only [Act.put, List.setIfInBounds_toArray, List.set_cons_zero, List.set_cons_succ]
    refine wpAnyH_take (i := 37) (oi := ?oi_193) (v := undef) ?hi_193 (by kernel_rfl) ?hf_193 (by kernel_rfl) ?hQ_193 ?hy_193 (by assumption) ?_
    case hi_193 => simp only [List.getElem?_toArray, List.getElem?_cons_zero, List.getElem?_cons_succ]; try rfl
    case hf_193 => kernel_rfl
    case hQ_193 => exact fun _ _ _ h => h
    case hy_193 => exact Or.inr ⟨by rfl, rfl⟩
    try simp only [Act.put, List.setIfInBounds_toArray, List.set_cons_zero, List.set_cons_succ]
    refine wpAnyH_take (i := 38) (oi := ?oi_194) (v := undef) ?hi_194 (by kernel_rfl) ?hf_194 (by kernel_rfl) ?hQ_194 ?hy_194 (by assumption) ?_
    case hi_194 => simp only [List.getElem?_toArray, List.getElem?_cons_zero, List.getElem?_cons_succ]; try rfl
    case hf_194 => kernel_rfl
    case hQ_194 => exact fun _ _ _ h => h
    case hy_194 => exact Or.inr ⟨by rfl, rfl⟩
    try simp only [Act.put, List.setIfInBounds_toArray, List.set_cons_zero, List.set_cons_succ]
    refine wpAnyH_take (i := 39) (oi := ?oi_195) (v := undef) ?hi_195 (by kernel_rfl) ?hf_195 (by kernel_rfl) ?hQ_195 ?hy_195 (by assumption) ?_
    case hi_195 => simp only [List.getElem?_toArray, List.getElem?_cons_zero, List.getElem?_cons_succ]; try rfl
    case hf_195 => kernel_rfl
    case hQ_195 => exact fun _ _ _ h => h
    case hy_195 => exact Or.inr ⟨by rfl, rfl⟩
    try simp only [Act.put, List.setIfInBounds_toArray, List.set_cons_zero, List.set_cons_succ]
    refine wpAnyH_take (i := 40) (oi := ?oi_196) (v := undef) ?hi_196 (by kernel_rfl) ?hf_196 (by kernel_rfl) ?hQ_196 ?hy_196 (by assumption) ?_
    case hi_196 => simp only [List.getElem?_toArray, List.getElem?_cons_zero, List.getElem?_cons_succ]; try rfl
    case hf_196 => kernel_rfl
    case hQ_196 => exact fun _ _ _ h => h
    case hy_196 => exact Or.inr ⟨by rfl, rfl⟩
    try simp only [Act.put, List.setIfInBounds_toArray, List.set_cons_zero, List.set_cons_succ]
    refine wpAnyH_take (i := 41) (oi := ?oi_197) (v := undef) ?hi_197 (by kernel_rfl) ?hf_197 (by kernel_rfl) ?hQ_197 ?hy_197 (by assumption) ?_
    case hi_197 => simp only [List.getElem?_toArray, List.getElem?_cons_zero, List.getElem?_cons_succ]; try rfl
    case hf_197 => kernel_rfl
    case hQ_197 => exact fun _ _ _ h => h
    case hy_197 => exact Or.inr ⟨by rfl, rfl⟩
    try simp only [Act.put, List.setIfInBounds_toArray, List.set_cons_zero, List.set_cons_succ]
    refine wpAnyH_take (i := 42) (oi := ?oi_198) (v := ?_) ?hi_198 (by kernel_rfl) ?hf_198 (by kernel_rfl) ?hQ_198 ?hy_198 (by assumption) ?_
    case hi_198 => simp only [List.getElem?_toArray, List.getElem?_cons_zero, List.getElem?_cons_succ]; try rfl
    case hf_198 => kernel_rfl
    case hQ_198 => exact fun _ _ _ h => h
    case hy_198 =>
      refine Or.inl ⟨by rfl, ?_⟩
      intro W hSw
      obtain ⟨q3x, q3y, q4x, q4y, q5x, q5y, q8x, q8y, q9x, q9y⟩ := hSw
      go_simp
      try with_reducible rfl
    try simp only [Act.put, List.setIfInBounds_toArray, List.set_cons_zero, List.set_cons_succ]
    refine wpAnyH_take (i := 43) (oi := ?oi_199) (v := ?_) ?hi_199 (by kernel_rfl) ?hf_199 (by kernel_rfl) ?hQ_199 ?hy_199 (by assumption) ?_
    case hi_199 => simp only [List.getElem?_toArray, List.getElem?_cons_zero, List.getElem?_cons_succ]; try rfl
    case hf_199 => kernel_rfl
    case hQ_199 => exact fun _ _ _ h => h
    case hy_199 =>
      refine Or.inl ⟨by rfl, ?_⟩
      intro W hSw
      obtain ⟨q3x, q3y, q4x, q4y, q5x, q5y, q8x, q8y, q9x, q9y⟩ := hSw
      go_simp
      try with_reducible rfl
    try simp only [Act.put, List.setIfInBounds_toArray, List.set_cons_zero, List.set_cons_succ]
    refine wpAnyH_take (i := 44) (oi := ?oi_200) (v := undef) ?hi_200 (by kernel_rfl) ?hf_200 (by kernel_rfl) ?hQ_200 ?hy_200 (by assumption) ?_
    case hi_200 => simp only [List.getElem?_toArray, List.getElem?_cons_zero, List.getElem?_cons_succ]; try rfl
    case hf_200 => kernel_rfl
    case hQ_200 => exact fun _ _ _ h => h
    case hy_200 => exact Or.inr ⟨by rfl, rfl⟩
    try simp only [Act.put, List.setIfInBounds_toArray, List.set_cons_zero, List.set_cons_succ]
    refine wpAnyH_take (i := 45) (oi := ?oi_201) (v := undef) ?hi_201 (by kernel_rfl) ?hf_201 (by kernel_rfl) ?hQ_201 ?hy_201 (by assumption) ?_
    case hi_201 => simp only [List.getElem?_toArray, List.getElem?_cons_zero, List.getElem?_cons_succ]; try rfl
    case hf_201 => kernel_rfl
    case hQ_201 => exact fun _ _ _ h => h
    case hy_201 => exact Or.inr ⟨by rfl, rfl⟩
    try simp only [Act.put, List.setIfInBounds_toArray, List.set_cons_zero, List.set_cons_succ]
    refine wpAnyH_take (i := 46) (oi := ?oi_202) (v := undef) ?hi_202 (by kernel_rfl) ?hf_202 (by kernel_rfl) ?hQ_202 ?hy_202 (by assumption) ?_
    case hi_202 => simp only [List.getElem?_toArray, List.getElem?_cons_zero, List.getElem?_cons_succ]; try rfl
    case hf_202 => kernel_rfl
    case hQ_202 => exact fun _ _ _ h => h
    case hy_202 => exact Or.inr ⟨by rfl, rfl⟩
    try simp only [Act.put, List.setIfInBounds_toArray, List.set_cons_zero, List.set_cons_succ]
    refine wpAnyH_take (i := 47) (oi := ?oi_203) (v := undef) ?hi_203 (by kernel_rfl) ?hf_203 (by kernel_rfl) ?hQ_203 ?hy_203 (by assumption) ?_
    case hi_203 => simp only [List.getElem?_toArray, List.getElem?_cons_zero, List.getElem?_cons_succ]; try rfl
    case hf_203 => kernel_rfl
    case hQ_203 => exact fun _ _ _ h => h
    case hy_203 => exact Or.inr ⟨by rfl, rfl⟩
    try simp only [Act.put, List.setIfInBounds_toArray, List.set_cons_zero, List.set_cons_succ]
    refine wpAnyH_take (i := 48) (oi := ?oi_204) (v := undef) ?hi_204 (by kernel_rfl) ?hf_204 (by kernel_rfl) ?hQ_204 ?hy_204 (by assumption) ?_
    case hi_204 => simp only [List.getElem?_toArray, List.getElem?_cons_zero, List.getElem?_cons_succ]; try rfl
    case hf_204 => kernel_rfl
    case hQ_204 => exact fun _ _ _ h => h
    case hy_204 => exact Or.inr ⟨by rfl, rfl⟩
    try simp only [Act.put, List.setIfInBounds_toArray, List.set_cons_zero, List.set_cons_succ]
    refine wpAnyH_take (i := 49) (oi := ?oi_205) (v := undef) ?hi_205 (by kernel_rfl) ?hf_205 (by kernel_rfl) ?hQ_205 ?hy_205 (by assumption) ?_
    case hi_205 => simp only [List.getElem?_toArray, List.getElem?_cons_zero, List.getElem?_cons_succ]; try rfl
    case hf_205 => kernel_rfl
    case hQ_205 => exact fun _ _ _ h => h
    case hy_205 => exact Or.inr ⟨by rfl, rfl⟩
    try simp only [Act.put, List.setIfInBounds_toArray, List.set_cons_zero, List.set_cons_succ]
    refine wpAnyH_take (i := 50) (oi := ?oi_206) (v := undef) ?hi_206 (by kernel_rfl) ?hf_206 (by kernel_rfl) ?hQ_206 ?hy_206 (by assumption) ?_
    case hi_206 => simp only [List.getElem?_toArray, List.getElem?_cons_zero, List.getElem?_cons_succ]; try rfl
    case hf_206 => kernel_rfl
    case hQ_206 => exact fun _ _ _ h => h
    case hy_206 => exact Or.inr ⟨by rfl, rfl⟩
    try simp only [Act.put, List.setIfInBounds_toArray, List.set_cons_zero, List.set_cons_succ]
    refine wpAnyH_take (i := 51) (oi := ?oi_207) (v := undef) ?hi_207 (by kernel_rfl) ?hf_207 (by kernel_rfl) ?hQ_207 ?hy_207 (by assumption) ?_
    case hi_207 => simp only [List.getElem?_toArray, List.getElem?_cons_zero, List.getElem?_cons_succ]; try rfl
    case hf_207 => kernel_rfl
    case hQ_207 => exact fun _ _ _ h => h
    case hy_207 => exact Or.inr ⟨by rfl, rfl⟩
    try simp only [Act.put, List.setIfInBounds_toArray, List.set_cons_zero, List.set_cons_succ]
    refine wpAnyH_take (i := 52) (oi := ?oi_208) (v := undef) ?hi_208 (by kernel_rfl) ?hf_208 (by kernel_rfl) ?hQ_208 ?hy_208 (by assumption) ?_
    case hi_208 => simp only [List.getElem?_toArray, List.getElem?_cons_zero, List.getElem?_cons_succ]; try rfl
    case hf_208 => kernel_rfl
    case hQ_208 => exact fun _ _ _ h => h
    case hy_208 => exact Or.inr ⟨by rfl, rfl⟩
    try simp only [Act.put, List.setIfInBounds_toArray, List.set_cons_zero, List.set_cons_succ]
    refine wpAnyH_take (i := 53) (oi := ?oi_209) (v := undef) ?hi_209 (by kernel_rfl) ?hf_209 (by kernel_rfl) ?hQ_209 ?hy_209 (by assumption) ?_
    case hi_209 => simp only [List.getElem?_toArray, List.getElem?_cons_zero, List.getElem?_cons_succ]; try rfl
    case hf_209 => kernel_rfl
    case hQ_209 => exact fun _ _ _ h => h
    case hy_209 => exact Or.inr ⟨by rfl, rfl⟩
    try simp only [Act.put, List.setIfInBounds_toArray, List.set_cons_zero, List.set_cons_succ]
    refine wpAnyH_take (i := 54) (oi := ?oi_210) (v := ?_) ?hi_210 (by kernel_rfl) ?hf_210 (by kernel_rfl) ?hQ_210 ?hy_210 (by assumption) ?_
    case hi_210 => simp only [List.getElem?_toArray, List.getElem?_cons_zero, List.getElem?_cons_succ]; try rfl
    case hf_210 => kernel_rfl
    case hQ_210 => exact fun _ _ _ h => h
    case hy_210 =>
      refine Or.inl ⟨by rfl, ?_⟩
      intro W hSw
      obtain ⟨q3x, q3y, q4x, q4y, q5x, q5y, q8x, q8y, q9x, q9y⟩ := hSw
      go_simp
      try with_reducible rfl
    try simp only [Act.put, List.setIfInBounds_toArray, List.set_cons_zero, List.set_cons_succ]
    refine wpAnyH_take (i := 55) (oi := ?oi_211) (v := ?_) ?hi_211 (by kernel_rfl) ?hf_211 (by kernel_rfl) ?hQ_211 ?hy_211 (by assumption) ?_
    case hi_211 => simp only [List.getElem?_toArray, List.getElem?_cons_zero, List.getElem?_cons_succ]; try rfl
    case hf_211 => kernel_rfl
    case hQ_211 => exact fun _ _ _ h => h
    case hy_211 =>
      refine Or.inl ⟨by rfl, ?_⟩
      intro W hSw
      obtain ⟨q3x, q3y, q4x, q4y, q5x, q5y, q8x, q8y, q9x, q9y⟩ := hSw
      go_simp
      try with_reducible rfl
    try simp only [Act.put, List.setIfInBounds_toArray, List.set_cons_zero, List.set_cons_succ]
    refine wpAnyH_done (by kernel_rfl) ?_ _
    clear hHeld
    go_wp2
    go_ret
    exact ⟨rfl, HB1.out⟩
  | true =>
  simp only [Bool.true_and]
  cases r1 with
  | false =>
    simp only [Bool.false_and]
    go_enter Try.func36, Try.ntmps36
    go_wp2_with fail
    refine wp_region_held_drew (S := (fun W => W.cell? ⟨gx, 3, none⟩ = some (.int .i64 tabx) ∧ W.cell? ⟨gy, 3, none⟩ = some (.int .i64 tabx) ∧ W.cell? ⟨gx, 4, none⟩ = some (.slice xA4 xn4 xc4) ∧ W.cell? ⟨gy, 4, none⟩ = some (.slice yA4 yn4 yc4) ∧ W.cell? ⟨gx, 5, none⟩ = some (.slice xA5 xn5 xc5) ∧ W.cell? ⟨gy, 5, none⟩ = some (.slice yA5 yn5 yc5) ∧ W.cell? ⟨gx, 8, none⟩ = some (.slice xA8 xn8 xc8) ∧ W.cell? ⟨gy, 8, none⟩ = some (.slice yA8 yn8 yc8) ∧ W.cell? ⟨gx, 9, none⟩ = some (.slice xA9 xn9 xc9) ∧ W.cell? ⟨gy, 9, none⟩ = some (.slice yA9 yn9 yc9))) (by kernel_rfl) ⟨HX.out.cell 3, HY.out.cell 3, HX.out.cell 4, HY.out.cell 4, HX.out.cell 5, HY.out.cell 5, HX.out.cell 8, HY.out.cell 8, HX.out.cell 9, HY.out.cell 9⟩ (fun hHeld => ?_)
    refine wpAnyH_take (i := 0) (oi := ?oi_212) (v := ?_) ?hi_212 (by kernel_rfl) ?hf_212 (by kernel_rfl) ?hQ_212 ?hy_212 (by assumption) ?_
    case hi_212 => simp only [List.getElem?_toArray, List.getElem?_cons_zero, List.getElem?_cons_succ]; try rfl
    case hf_212 => kernel_rfl
    case hQ_212 => exact fun _ _ _ h => h
    case hy_212 =>
      refine Or.inl ⟨by rfl, ?_⟩
      intro W hSw
      obtain ⟨q3x, q3y, q4x, q4y, q5x, q5y, q8x, q8y, q9x, q9y⟩ := hSw
      go_simp
      try with_reducible rfl
    try simp only [Act.put, List.setIfInBounds_toArray, List.set_cons_zero, List.set_cons_succ]
    refine wpAnyH_take (i := 1) (oi := ?oi_213) (v := ?_) ?hi_213 (by kernel_rfl) ?hf_213 (by kernel_rfl) ?hQ_213 ?hy_213 (by assumption) ?_
    case hi_213 => simp only [List.getElem?_toArray, List.getElem?_cons_zero, List.getElem?_cons_succ]; try rfl
    case hf_213 => kernel_rfl
    case hQ_213 => exact fun _ _ _ h => h
    case hy_213 =>
      refine Or.inl ⟨by rfl, ?_⟩
      intro W hSw
      obtain ⟨q3x, q3y, q4x, q4y, q5x, q5y, q8x, q8y, q9x, q9y⟩ := hSw
      go_simp
      try with_reducible rfl
    try simp only [Act.put, List.setIfInBounds_toArray, List.set_cons_zero, List.set_cons_succ]
    refine wpAnyH_take (i := 2) (oi := ?oi_214) (v := ?_) ?hi_214 (by kernel_rfl) ?hf_214 (by kernel_rfl) ?hQ_214 ?hy_214 (by assumption) ?_
    case hi_214 => simp only [List.getElem?_toArray, List.getElem?_cons_zero, List.getElem?_cons_succ]; try rfl
    case hf_214 => kernel_rfl
    case hQ_214 => exact fun _ _ _ h => h
    case hy_214 =>
      refine Or.inl ⟨by rfl, ?_⟩
      intro W hSw
      obtain ⟨q3x, q3y, q4x, q4y, q5x, q5y, q8x, q8y, q9x, q9y⟩ := hSw
      go_simp
      try with_reducible rfl
    try simp only [Act.put, List.setIfInBounds_toArray, List.set_cons_zero, List.set_cons_succ]
    refine wpAnyH_take (i := 3) (oi := ?oi_215) (v := ?_) ?hi_215 (by kernel_rfl) ?hf_215 (by kernel_rfl) ?hQ_215 ?hy_215 (by assumption) ?_
    case hi_215 => simp only [List.getElem?_toArray, List.getElem?_cons_zero, List.getElem?_cons_succ]; try rfl
    case hf_215 => kernel_rfl
    case hQ_215 => exact fun _ _ _ h => h
    case hy_215 =>
      refine Or.inl ⟨by rfl, ?_⟩
      intro W hSw
      obtain ⟨q3x, q3y, q4x, q4y, q5x, q5y, q8x, q8y, q9x, q9y⟩ := hSw
      go_simp
      try with_reducible rfl
    try simp only [Act.put, List.setIfInBounds_toArray, List.set_cons_zero, List.set_cons_succ]
    refine wpAnyH_take (i := 4) (oi := ?oi_216) (v := ?_) ?hi_216 (by kernel_rfl) ?hf_216 (by kernel_rfl) ?hQ_216 ?hy_216 (by assumption) ?_
    case hi_216 => simp only [List.getElem?_toArray, List.getElem?_cons_zero, List.getElem?_cons_succ]; try rfl
    case hf_216 => kernel_rfl
    case hQ_216 => exact fun _ _ _ h => h
    case hy_216 =>
      refine Or.inl ⟨by rfl, ?_⟩
      intro W hSw
      obtain ⟨q3x, q3y, q4x, q4y, q5x, q5y, q8x, q8y, q9x, q9y⟩ := hSw
      go_simp
      try with_reducible rfl
    try simp only [Act.put, List.setIfInBounds_toArray, List.set_cons_zero, List.set_cons_succ]
    refine wpAnyH_take (i := 5) (oi := ?oi_217) (v := ?_) ?hi_217 (by kernel_rfl) ?hf_217 (by kernel_rfl) ?hQ_217 ?hy_217 (by assumption) ?_
    case hi_217 => simp only [List.getElem?_toArray, List.getElem?_cons_zero, List.getElem?_cons_succ]; try rfl
    case hf_217 => kernel_rfl
    case hQ_217 => exact fun _ _ _ h => h
    case hy_217 =>
      refine Or.inl ⟨by rfl, ?_⟩
      intro W hSw
      obtain ⟨q3x, q3y, q4x, q4y, q5x, q5y, q8x, q8y, q9x, q9y⟩ := hSw
      go_simp
      try with_reducible rfl
    try simp only [Act.put, List.setIfInBounds_toArray, List.set_cons_zero, List.set_cons_succ]
    refine wpAnyH_take (i := 6) (oi := ?oi_218) (v := ?_) ?hi_218 (by kernel_rfl) ?hf_218 (by kernel_rfl) ?hQ_218 ?hy_218 (by assumption) ?_
    case hi_218 => simp only [List.getElem?_toArray, List.getElem?_cons_zero, List.getElem?_cons_succ]; try rfl
    case hf_218 => kernel_rfl
    case hQ_218 => exact fun _ _ _ h => h
    case hy_218 =>
      refine Or.inl ⟨by rfl, ?_⟩
      intro W hSw
      obtain ⟨q3x, q3y, q4x, q4y, q5x, q5y, q8x, q8y, q9x, q9y⟩ := hSw
      go_simp
      try with_reducible rfl
    try simp only [Act.put, List.setIfInBounds_toArray, List.set_cons_zero, List.set_cons_succ]
    refine wpAnyH_take (i := 7) (oi := ?oi_219) (v := ?_) ?hi_219 (by kernel_rfl) ?hf_219 (by kernel_rfl) ?hQ_219 ?hy_219 (by assumption) ?_
    case hi_219 => simp only [List.getElem?_toArray, List.getElem?_cons_zero, List.getElem?_cons_succ]; try rfl
    case hf_219 => kernel_rfl
    case hQ_219 => exact fun _ _ _ h => h
    case hy_219 =>
      refine Or.inl ⟨by rfl, ?_⟩
      intro W hSw
      obtain ⟨q3x, q3y, q4x, q4y, q5x, q5y, q8x, q8y, q9x, q9y⟩ := hSw
      go_simp
      try with_reducible rfl
    try simp only [Act.put, List.setIfInBounds_toArray, List.set_cons_zero, List.set_cons_succ]
    refine wpAnyH_take (i := 8) (oi := ?oi_220) (v := ?_) ?hi_220 (by kernel_rfl) ?hf_220 (by kernel_rfl) ?hQ_220 ?hy_220 (by assumption) ?_
    case hi_220 => simp only [List.getElem?_toArray, List.getElem?_cons_zero, List.getElem?_cons_succ]; try rfl
    case hf_220 => kernel_rfl
    case hQ_220 => exact fun _ _ _ h => h
    case hy_220 =>
      refine Or.inl ⟨by rfl, ?_⟩
      intro W hSw
      obtain ⟨q3x, q3y, q4x, q4y, q5x, q5y, q8x, q8y, q9x, q9y⟩ := hSw
      go_simp
      try with_reducible rfl
    try simp only [Act.put, List.setIfInBounds_toArray, List.set_cons_zero, List.set_cons_succ]
    refine wpAnyH_take (i := 9) (oi := ?oi_221) (v := ?_) ?hi_221 (by kernel_rfl) ?hf_221 (by kernel_rfl) ?hQ_221 ?hy_221 (by assumption) ?_
    case hi_221 => simp only [List.getElem?_toArray, List.getElem?_cons_zero, List.getElem?_cons_succ]; try rfl
    case hf_221 => kernel_rfl
    case hQ_221 => exact fun _ _ _ h => h
    case hy_221 =>
      refine Or.inl ⟨by rfl, ?_⟩
      intro W hSw
      obtain ⟨q3x, q3y, q4x, q4y, q5x, q5y, q8x, q8y, q9x, q9y⟩ := hSw
      go_simp
      try with_reducible rfl
    try simp only [Act.put, List.setIfInBounds_toArray, List.set_cons_zero, List.set_cons_succ]
    refine wpAnyH_take (i := 10) (oi := ?oi_222) (v := ?_) ?hi_222 (by kernel_rfl) ?hf_222 (by kernel_rfl) ?hQ_222 ?hy_222 (by assumption) ?_
    case hi_222 => simp only [List.getElem?_toArray, List.getElem?_cons_zero, List.getElem?_cons_succ]; try rfl
    case hf_222 => kernel_rfl
    case hQ_222 => exact fun _ _ _ h => h
    case hy_222 =>
      refine Or.inl ⟨by rfl, ?_⟩
      intro W hSw
      obtain ⟨q3x, q3y, q4x, q4y, q5x, q5y, q8x, q8y, q9x, q9y⟩ := hSw
      go_simp
      try with_reducible rfl
    try simp only [Act.put, List.setIfInBounds_toArray, List.set_cons_zero, List.set_cons_succ]
    refine wpAnyH_take (i := 11) (oi := ?oi_223) (v := ?_) ?hi_223 (by kernel_rfl) ?hf_223 (by kernel_rfl) ?hQ_223 ?hy_223 (by assumption) ?_
    case hi_223 => simp only [List.getElem?_toArray, List.getElem?_cons_zero, List.getElem?_cons_succ]; try rfl
    case hf_223 => kernel_rfl
    case hQ_223 => exact fun _ _ _ h => h
    case hy_223 =>
      refine Or.inl ⟨by rfl, ?_⟩
      intro W hSw
      obtain ⟨q3x, q3y, q4x, q4y, q5x, q5y, q8x, q8y, q9x, q9y⟩ := hSw
      go_simp
      try with_reducible rfl
    try simp only [Act.put, List.setIfInBounds_toArray, List.set_cons_zero, List.set_cons_succ]
    refine wpAnyH_take (i := 12) (oi := ?oi_224) (v := ?_) ?hi_224 (by kernel_rfl) ?hf_224 (by kernel_rfl) ?hQ_224 ?hy_224 (by assumption) ?_
    case hi_224 => simp only [List.getElem?_toArray, List.getElem?_cons_zero, List.getElem?_cons_succ]; try rfl
    case hf_224 => kernel_rfl
    case hQ_224 => exact fun _ _ _ h => h
    case hy_224 =>
      refine Or.inl ⟨by rfl, ?_⟩
      intro W hSw
      obtain ⟨q3x, q3y, q4x, q4y, q5x, q5y, q8x, q8y, q9x, q9y⟩ := hSw
      go_simp
      try with_reducible rfl
    try simp only [Act.put, List.setIfInBounds_toArray, List.set_cons_zero, List.set_cons_succ]
    refine wpAnyH_take (i := 13) (oi := ?oi_225) (v := ?_) ?hi_225 (by kernel_rfl) ?hf_225 (by kernel_rfl) ?hQ_225 ?hy_225 (by assumption) ?_
    case hi_225 => simp only [List.getElem?_toArray, List.getElem?_cons_zero, List.getElem?_cons_succ]; try rfl
    case hf_225 => kernel_rfl
    case hQ_225 => exact fun _ _ _ h => h
    case hy_225 =>
      refine Or.inl ⟨by rfl, ?_⟩
      intro W hSw
      obtain ⟨q3x, q3y, q4x, q4y, q5x, q5y, q8x, q8y, q9x, q9y⟩ := hSw
      go_simp
      try with_reducible rfl
    try simp only [Act.put, List.setIfInBounds_toArray, List.set_cons_zero, List.set_cons_succ]
    refine wpAnyH_take (i := 14) (oi := ?oi_226) (v := ?_) ?hi_226 (by kernel_rfl) ?hf_226 (by kernel_rfl) ?hQ_226 ?hy_226 (by assumption) ?_
    case hi_226 => simp only [List.getElem?_toArray, List.getElem?_cons_zero, List.getElem?_cons_succ]; try rfl
    case hf_226 => kernel_rfl
    case hQ_226 => exact fun _ _ _ h => h
    case hy_226 =>
      refine Or.inl ⟨by rfl, ?_⟩
      intro W hSw
      obtain ⟨q3x, q3y, q4x, q4y, q5x, q5y, q8x, q8y, q9x, q9y⟩ := hSw
      go_simp
      try with_reducible rfl
    try simp only [Act.put, List.setIfInBounds_toArray, List.set_cons_zero, List.set_cons_succ]
    refine wpAnyH_take (i := 15) (oi := ?oi_227) (v := ?_) ?hi_227 (by kernel_rfl) ?hf_227 (by kernel_rfl) ?hQ_227 ?hy_227 (by assumption) ?_
    case hi_227 => simp only [List.getElem?_toArray, List.getElem?_cons_zero, List.getElem?_cons_succ]; try rfl
    case hf_227 => kernel_rfl
    case hQ_227 => exact fun _ _ _ h => h
    case hy_227 =>
      refine Or.inl ⟨by rfl, ?_⟩
      intro W hSw
      obtain ⟨q3x, q3y, q4x, q4y, q5x, q5y, q8x, q8y, q9x, q9y⟩ := hSw
      go_simp
      try with_reducible rfl
    try simp only [Act.put, List.setIfInBounds_toArray, List.set_cons_zero, List.set_cons_succ]
    refine wpAnyH_take (i := 16) (oi := ?oi_228) (v := ?_) ?hi_228 (by kernel_rfl) ?hf_228 (by kernel_rfl) ?hQ_228 ?hy_228 (by assumption) ?_
    case hi_228 => simp only [List.getElem?_toArray, List.getElem?_cons_zero, List.getElem?_cons_succ]; try rfl
    case hf_228 => kernel_rfl
    case hQ_228 => exact fun _ _ _ h => h
    case hy_228 =>
      refine Or.inl ⟨by rfl, ?_⟩
      intro W hSw
      obtain ⟨q3x, q3y, q4x, q4y, q5x, q5y, q8x, q8y, q9x, q9y⟩ := hSw
      go_simp
      try with_reducible rfl
    try simp only [Act.put, List.setIfInBounds_toArray, List.set_cons_zero, List.set_cons_succ]
    refine wpAnyH_take (i := 17) (oi := ?oi_229) (v := ?_) ?hi_229 (by kernel_rfl) ?hf_229 (by kernel_rfl) ?hQ_229 ?hy_229 (by assumption) ?_
    case hi_229 => simp only [List.getElem?_toArray, List.getElem?_cons_zero, List.getElem?_cons_succ]; try rfl
    case hf_229 => kernel_rfl
    case hQ_229 => exact fun _ _ _ h => h
    case hy_229 =>
      refine Or.inl ⟨by rfl, ?_⟩
      intro W hSw
      obtain ⟨q3x, q3y, q4x, q4y, q5x, q5y, q8x, q8y, q9x, q9y⟩ := hSw
      go_simp
      try with_reducible rfl
    try simp only [Act.put, List.setIfInBounds_toArray, List.set_cons_zero, List.set_cons_succ]
    refine wpAnyH_ready (rs := [18]) (by kernel_rfl) (by simp) ?_
    refine AllReadyH.cons (o := ?oi_230) ?hi_230 (fun K hK => ?_) AllReadyH.nil
    case hi_230 => simp only [List.getElem?_toArray, List.getElem?_cons_zero, List.getElem?_cons_succ]; try rfl
    go_simp
    (go_at_call 58
     with_reducible refine (E0.out _ HD.out).mono ?_
     rintro e w1 ⟨rfl, hb1⟩
     have HB1 : Hid (Below w.heap.size w w1) := Lib.hid (HD.out.trans (hb1.mono HD.out.size))
     clear hb1)
    refine hK.out _ _ ⟨(HX.out.below HB1.out HX.out.lt).cell 3, (HY.out.below HB1.out HY.out.lt).cell 3, (HX.out.below HB1.out HX.out.lt).cell 4, (HY.out.below HB1.out HY.out.lt).cell 4, (HX.out.below HB1.out HX.out.lt).cell 5, (HY.out.below HB1.out HY.out.lt).cell 5, (HX.out.below HB1.out HX.out.lt).cell 8, (HY.out.below HB1.out HY.out.lt).cell 8, (HX.out.below HB1.out HX.out.lt).cell 9, (HY.out.below HB1.out HY.out.lt).cell 9⟩ (fun hHeld => ?_)
    clear hK K
    try simp only [Act.put, List.setIfInBounds_toArray, List.set_cons_zero, List.set_cons_succ]
    refine wpAnyH_take (i := 19) (oi := ?oi_231) (v := ?_) ?hi_231 (by kernel_rfl) ?hf_231 (by kernel_rfl) ?hQ_231 ?hy_231 (by assumption) ?_
    case hi_231 => simp only [List.getElem?_toArray, List.getElem?_cons_zero, List.getElem?_cons_succ]; try rfl
    case hf_231 => kernel_rfl
    case hQ_231 => exact fun _ _ _ h => h
    case hy_231 =>
      refine Or.inl ⟨by rfl, ?_⟩
      intro W hSw
      obtain ⟨q3x, q3y, q4x, q4y, q5x, q5y, q8x, q8y, q9x, q9y⟩ := hSw
      go_simp
      try with_reducible rfl
    try simp only [Act.put, List.setIfInBounds_toArray, List.set_cons_zero, List.set_cons_succ]
    refine wpAnyH_take (i := 20) (oi := ?oi_232) (v := ?_) ?hi_232 (by kernel_rfl) ?hf_232 (by kernel_rfl) ?hQ_232 ?hy_232 (by assumption) ?_
    case hi_232 => simp only [List.getElem?_toArray, List.getElem?_cons_zero, List.getElem?_cons_succ]; try rfl
    case hf_232 => kernel_rfl
    case hQ_232 => exact fun _ _ _ h => h
    case hy_232 =>
      refine Or.inl ⟨by rfl, ?_⟩
      intro W hSw
      obtain ⟨q3x, q3y, q4x, q4y, q5x, q5y, q8x, q8y, q9x, q9y⟩ := hSw
      go_simp
      try with_reducible rfl
    try simp only [Act.put, List.setIfInBounds_toArray, List.set_cons_zero, List.set_cons_succ]
    refine wpAnyH_take (i := 21) (oi := ?oi_233) (v := ?_) ?hi_233 (by kernel_rfl) ?hf_233 (by kernel_rfl) ?hQ_233 ?hy_233 (by assumption) ?_
    case hi_233 => simp only [List.getElem?_toArray, List.getElem?_cons_zero, List.getElem?_cons_succ]; try rfl
    case hf_233 => kernel_rfl
    case hQ_233 => exact fun _ _ _ h => h
    case hy_233 =>
      refine Or.inl ⟨by rfl, ?_⟩
      intro W hSw
      obtain ⟨q3x, q3y, q4x, q4y, q5x, q5y, q8x, q8y, q9x, q9y⟩ := hSw
      go_simp
      try with_reducible rfl
    try simp only [Act.put, List.setIfInBounds_toArray, List.set_cons_zero, List.set_cons_succ]
    refine wpAnyH_take (i := 22) (oi := ?oi_234) (v := ?_) ?hi_234 (by kernel_rfl) ?hf_234 (by kernel_rfl) ?hQ_234 ?hy_234 (by assumption) ?_
    case hi_234 => simp only [List.getElem?_toArray, List.getElem?_cons_zero, List.getElem?_cons_succ]; try rfl
    case hf_234 => kernel_rfl
    case hQ_234 => exact fun _ _ _ h => h
    case hy_234 =>
      refine Or.inl ⟨by rfl, ?_⟩
      intro W hSw
      obtain ⟨q3x, q3y, q4x, q4y, q5x, q5y, q8x, q8y, q9x, q9y⟩ := hSw
      go_simp
      try with_reducible rfl
    try simp only [Act.put, List.setIfInBounds_toArray, List.set_cons_zero, List.set_cons_succ]
    refine wpAnyH_take (i := 23) (oi := ?oi_235) (v := ?_) ?hi_235 (by kernel_rfl) ?hf_235 (by kernel_rfl) ?hQ_235 ?hy_235 (by assumption) ?_
    case hi_235 => simp only [List.getElem?_toArray, List.getElem?_cons_zero, List.getElem?_cons_succ]; try rfl
    case hf_235 => kernel_rfl
    case hQ_235 => exact fun _ _ _ h => h
    case hy_235 =>
      refine Or.inl ⟨by rfl, ?_⟩
      intro W hSw
      obtain ⟨q3x, q3y, q4x, q4y, q5x, q5y, q8x, q8y, q9x, q9y⟩ := hSw
      go_simp
      try with_reducible rfl
    try simp only [Act.put, List.setIfInBounds_toArray, List.set_cons_zero, List.set_cons_succ]
    refine wpAnyH_take (i := 24) (oi := ?oi_236) (v := ?_) ?hi_236 (by kernel_rfl) ?hf_236 (by kernel_rfl) ?hQ_236 ?hy_236 (by assumption) ?_
    case hi_236 => simp only [List.getElem?_toArray, List.getElem?_cons_zero, List.getElem?_cons_succ]; try rfl
    case hf_236 => kernel_rfl
    case hQ_236 => exact fun _ _ _ h => h
    case hy_236 =>
      refine Or.inl ⟨by rfl, ?_⟩
      intro W hSw
      obtain ⟨q3x, q3y, q4x, q4y, q5x, q5y, q8x, q8y, q9x, q9y⟩ := hSw
      go_simp
      try with_reducible rfl
    try simp only [Act.put, List.setIfInBounds_toArray, List.set_cons_zero, List.set_cons_succ]
    refine wpAnyH_take (i := 25) (oi := ?oi_237) (v := ?_) ?hi_237 (by kernel_rfl) ?hf_237 (by kernel_rfl) ?hQ_237 ?hy_237 (by assumption) ?_
    case hi_237 => simp only [List.getElem?_toArray, List.getElem?_cons_zero, List.getElem?_cons_succ]; try rfl
    case hf_237 => kernel_rfl
    case hQ_237 => exact fun _ _ _ h => h
    case hy_237 =>
      refine Or.inl ⟨by rfl, ?_⟩
      intro W hSw
      obtain ⟨q3x, q3y, q4x, q4y, q5x, q5y, q8x, q8y, q9x, q9y⟩ := hSw
      go_simp
      try with_reducible rfl
    try simp only [Act.put, List.setIfInBounds_toArray, List.set_cons_zero, List.set_cons_succ]
    refine wpAnyH_take (i := 26) (oi := ?oi_238) (v := ?_) ?hi_238 (by kernel_rfl) ?hf_238 (by kernel_rfl) ?hQ_238 ?hy_238 (by assumption) ?_
    case hi_238 => simp only [List.getElem?_toArray, List.getElem?_cons_zero, List.getElem?_cons_succ]; try rfl
    case hf_238 => kernel_rfl
    case hQ_238 => exact fun _ _ _ h => h
    case hy_238 =>
      refine Or.inl ⟨by rfl, ?_⟩
      intro W hSw
      obtain ⟨q3x, q3y, q4x, q4y, q5x, q5y, q8x, q8y, q9x, q9y⟩ := hSw
      go_simp
      try with_reducible rfl
    try simp only [Act.put, List.setIfInBounds_toArray, List.set_cons_zero, List.set_cons_succ]
    refine wpAnyH_take (i := 27) (oi := ?oi_239) (v := ?_) ?hi_239 (by kernel_rfl) ?hf_239 (by kernel_rfl) ?hQ_239 ?hy_239 (by assumption) ?_
    case hi_239 => simp only [List.getElem?_toArray, List.getElem?_cons_zero, List.getElem?_cons_succ]; try rfl
    case hf_239 => kernel_rfl
    case hQ_239 => exact fun _ _ _ h => h
    case hy_239 =>
      refine Or.inl ⟨by rfl, ?_⟩
      intro W hSw
      obtain ⟨q3x, q3y, q4x, q4y, q5x, q5y, q8x, q8y, q9x, q9y⟩ := hSw
      go_simp
      try with_reducible rfl
    try simp only [Act.put, List.setIfInBounds_toArray, List.set_cons_zero, List.set_cons_succ]
    refine wpAnyH_take (i := 28) (oi := ?oi_240) (v := ?_) ?hi_240 (by kernel_rfl) ?hf_240 (by kernel_rfl) ?hQ_240 ?hy_240 (by assumption) ?_
    case hi_240 => simp only [List.getElem?_toArray, List.getElem?_cons_zero, List.getElem?_cons_succ]; try rfl
    case hf_240 => kernel_rfl
    case hQ_240 => exact fun _ _ _ h => h
    case hy_240 =>
      refine Or.inl ⟨by rfl, ?_⟩
      intro W hSw
      obtain ⟨q3x, q3y, q4x, q4y, q5x, q5y, q8x, q8y, q9x, q9y⟩ := hSw
      go_simp
      try with_reducible rfl
    try simp only [Act.put, List.setIfInBounds_toArray, List.set_cons_zero, List.set_cons_succ]
    refine wpAnyH_ready (rs := [29]) (by kernel_rfl) (by simp) ?_
    refine AllReadyH.cons (o := ?oi_241) ?hi_241 (fun K hK => ?_) AllReadyH.nil
    case hi_241 => simp only [List.getElem?_toArray, List.getElem?_cons_zero, List.getElem?_cons_succ]; try rfl
    go_simp
    (go_at_call 59
     with_reducible refine (E1.out _ HB1.out).mono ?_
     rintro e w2 ⟨rfl, hb2⟩
     have HB2 : Hid (Below w.heap.size w w2) := Lib.hid (HB1.out.trans (hb2.mono HB1.out.size))
     clear hb2)
    refine hK.out _ _ ⟨(HX.out.below HB2.out HX.out.lt).cell 3, (HY.out.below HB2.out HY.out.lt).cell 3, (HX.out.below HB2.out HX.out.lt).cell 4, (HY.out.below HB2.out HY.out.lt).cell 4, (HX.out.below HB2.out HX.out.lt).cell 5, (HY.out.below HB2.out HY.out.lt).cell 5, (HX.out.below HB2.out HX.out.lt).cell 8, (HY.out.below HB2.out HY.out.lt).cell 8, (HX.out.below HB2.out HX.out.lt).cell 9, (HY.out.below HB2.out HY.out.lt).cell 9⟩ (fun hHeld => ?_)
    clear hK K
    try simp only [Act.put, List.setIfInBounds_toArray, List.set_cons_zero, List.set_cons_succ]
    refine wpAnyH_take (i := 30) (oi := ?oi_242) (v := ?_) ?hi_242 (by kernel_rfl) ?hf_242 (by kernel_rfl) ?hQ_242 ?hy_242 (by assumption) ?_
    case hi_242 => simp only [List.getElem?_toArray, List.getElem?_cons_zero, List.getElem?_cons_succ]; try rfl
    case hf_242 => kernel_rfl
    case hQ_242 => exact fun _ _ _ h => h
    case hy_242 =>
      refine Or.inl ⟨by rfl, ?_⟩
      intro W hSw
      obtain ⟨q3x, q3y, q4x, q4y, q5x, q5y, q8x, q8y, q9x, q9y⟩ := hSw
      go_simp
      try with_reducible rfl
    try simp only [Act.put, List.setIfInBounds_toArray, List.set_cons_zero, List.set_cons_succ]
    refine wpAnyH_take (i := 31) (oi := ?oi_243) (v := ?_) ?hi_243 (by kernel_rfl) ?hf_243 (by kernel_rfl) ?hQ_243 ?hy_243 (by assumption) ?_
    case hi_243 => simp only [List.getElem?_toArray, List.getElem?_cons_zero, List.getElem?_cons_succ]; try rfl
    case hf_243 => kernel_rfl
    case hQ_243 => exact fun _ _ _ h => h
    case hy_243 =>
      refine Or.inl ⟨by rfl, ?_⟩
      intro W hSw
      obtain ⟨q3x, q3y, q4x, q4y, q5x, q5y, q8x, q8y, q9x, q9y⟩ := hSw
      go_simp
      try with_reducible rfl
    try simp only [Act.put, List.setIfInBounds_toArray, List.set_cons_zero, List.set_cons_succ]
    refine wpAnyH_take (i := 32) (oi := ?oi_244) (v := undef) ?hi_244 (by kernel_rfl) ?hf_244 (by kernel_rfl) ?hQ_244 ?hy_244 (by assumption) ?_
    case hi_244 => simp only [List.getElem?_toArray, List.getElem?_cons_zero, List.getElem?_cons_succ]; try rfl
    case hf_244 => kernel_rfl
    case hQ_244 => exact fun _ _ _ h => h
    case hy_244 => exact Or.inr ⟨by rfl, rfl⟩
    try simp only [Act.put, List.setIfInBounds_toArray, List.set_cons_zero, List.set_cons_succ]
    refine wpAnyH_take (i := 33) (oi := ?oi_245) (v := undef) ?hi_245 (by kernel_rfl) ?hf_245 (by kernel_rfl) ?hQ_245 ?hy_245 (by assumption) ?_
    case hi_245 => simp only [List.getElem?_toArray, List.getElem?_cons_zero, List.getElem?_cons_succ]; try rfl
    case hf_245 => kernel_rfl
    case hQ_245 => exact fun _ _ _ h => h
    case hy_245 => exact Or.inr ⟨by rfl, rfl⟩
    try simp only [Act.put, List.setIfInBounds_toArray, List.set_cons_zero, List.set_cons_succ]
    refine wpAnyH_take (i := 34) (oi := ?oi_246) (v := undef) ?hi_246 (by kernel_rfl) ?hf_246 (by kernel_rfl) ?hQ_246 ?hy_246 (by assumption) ?_
    case hi_246 => simp only [List.getElem?_toArray, List.getElem?_cons_zero, List.getElem?_cons_succ]; try rfl
    case hf_246 => kernel_rfl
    case hQ_246 => exact fun _ _ _ h => h
    case hy_246 => exact Or.inr ⟨by rfl, rfl⟩
    try simp only [Act.put, List.setIfInBounds_toArray, List.set_cons_zero, List.set_cons_succ]
    refine wpAnyH_take (i := 35) (oi := ?oi_247) (v := undef) ?hi_247 (by kernel_rfl) ?hf_247 (by kernel_rfl) ?hQ_247 ?hy_247 (by assumption) ?_
    case hi_247 => simp only [List.getElem?_toArray, List.getElem?_cons_zero, List.getElem?_cons_succ]; try rfl
    case hf_247 => kernel_rfl
    case hQ_247 => exact fun _ _ _ h => h
    case hy_247 => exact Or.inr ⟨by rfl, rfl⟩
    try simp only [Act.put, List.setIfInBounds_toArray, List.set_cons_zero, List.set_cons_succ]
    refine wpAnyH_take (i := 36) (oi := ?oi_248) (v := undef) ?hi_248 (by kernel_rfl) ?hf_248 (by kernel_rfl) ?hQ_248 ?hy_248 (by assumption) ?_
    case hi_248 => simp only [List.getElem?_toArray, List.getElem?_cons_zero, List.getElem?_cons_succ]; try rfl
    case hf_248 => kernel_rfl
    case hQ_248 => exact fun _ _ _ h => h
    case hy_248 => exact Or.inr ⟨by rfl, rfl⟩
    try simp only [Act.put, List.setIfInBounds_toArray, List.set_cons_zero, List.set_cons_succ]
    refine wpAnyH_take (i := 37) (oi := ?oi_249) (v := undef) ?hi_249 (by kernel_rfl) ?hf_249 (by kernel_rfl) ?hQ_249 ?hy_249 (by assumption) ?_
    case hi_249 => simp only [List.getElem?_toArray, List.getElem?_cons_zero, List.getElem?_cons_succ]; try rfl
    case hf_249 => kernel_rfl
    case hQ_249 => exact fun _ _ _ h => h
    case hy_249 => exact Or.inr ⟨by rfl, rfl⟩
    try simp only [Act.put, List.setIfInBounds_toArray, List.set_cons_zero, List.set_cons_succ]
    refine wpAnyH_take (i := 38) (oi := ?oi_250) (v := undef) ?hi_250 (by kernel_rfl) ?hf_250 (by kernel_rfl) ?hQ_250 ?hy_250 (by assumption) ?_
    case hi_250 => simp only [List.getElem?_toArray, List.getElem?_cons_zero, List.getElem?_cons_succ]; try rfl
    case hf_250 => kernel_rfl
    case hQ_250 => exact fun _ _ _ h => h
    case hy_250 => exact Or.inr ⟨by rfl, rfl⟩
    try simp only [Act.put, List.setIfInBounds_toArray, List.set_cons_zero, List.set_cons_succ]
    refine wpAnyH_take (i := 39) (oi := ?oi_251) (v := undef) ?hi_251 (by kernel_rfl) ?hf_251 (by kernel_rfl) ?hQ_251 ?hy_251 (by assumption) ?_
    case hi_251 => simp only [List.getElem?_toArray, List.getElem?_cons_zero, List.getElem?_cons_succ]; try rfl
    case hf_251 => kernel_rfl
    case hQ_251 => exact fun _ _ _ h => h
    case hy_251 => exact Or.inr ⟨by rfl, rfl⟩
    try simp only [Act.put, List.setIfInBounds_toArray, List.set_cons_zero, List.set_cons_succ]
    refine wpAnyH_take (i := 40) (oi := ?oi_252) (v := undef) ?hi_252 (by kernel_rfl) ?hf_252 (by kernel_rfl) ?hQ_252 ?hy_252 (by assumption) ?_
    case hi_252 => simp only [List.getElem?_toArray, List.getElem?_cons_zero, List.getElem?_cons_succ]; try rfl
    case hf_252 => kernel_rfl
    case hQ_252 => exact fun _ _ _ h => h
    case hy_252 => exact Or.inr ⟨by rfl, rfl⟩
    try simp only [Act.put, List.setIfInBounds_toArray, List.set_cons_zero, List.set_cons_succ]
    refine wpAnyH_take (i := 41) (oi := ?oi_253) (v := undef) ?hi_253 (by kernel_rfl) ?hf_253 (by kernel_rfl) ?hQ_253 ?hy_253 (by assumption) ?_
    case hi_253 => simp only [List.getElem?_toArray, List.getElem?_cons_zero, List.getElem?_cons_succ]; try rfl
    case hf_253 => kernel_rfl
    case hQ_253 => exact fun _ _ _ h => h
    case hy_253 => exact Or.inr ⟨by rfl, rfl⟩
    try simp only [Act.put, List.setIfInBounds_toArray, List.set_cons_zero, List.set_cons_succ]
    refine wpAnyH_take (i := 42) (oi := ?oi_254) (v := ?_) ?hi_254 (by kernel_rfl) ?hf_254 (by kernel_rfl) ?hQ_254 ?hy_254 (by assumption) ?_
    case hi_254 => simp only [List.getElem?_toArray, List.getElem?_cons_zero, List.getElem?_cons_succ]; try rfl
    case hf_254 => kernel_rfl
    case hQ_254 => exact fun _ _ _ h => h
    case hy_254 =>
      refine Or.inl ⟨by rfl, ?_⟩
      intro W hSw
      obtain ⟨q3x, q3y, q4x, q4y, q5x, q5y, q8x, q8y, q9x, q9y⟩ := hSw
      go_simp
      try with_reducible rfl
    try simp only [Act.put, List.setIfInBounds_toArray, List.set_cons_zero, List.set_cons_succ]
    refine wpAnyH_take (i := 43) (oi := ?oi_255) (v := ?_) ?hi_255 (by kernel_rfl) ?hf_255 (by kernel_rfl) ?hQ_255 ?hy_255 (by assumption) ?_
    case hi_255 => simp only [List.getElem?_toArray, List.getElem?_cons_zero, List.getElem?_cons_succ]; try rfl
    case hf_255 => kernel_rfl
    case hQ_255 => exact fun _ _ _ h => h
    case hy_255 =>
      refine Or.inl ⟨by rfl, ?_⟩
      intro W hSw
      obtain ⟨q3x, q3y, q4x, q4y, q5x, q5y, q8x, q8y, q9x, q9y⟩ := hSw
      go_simp
      try with_reducible rfl
    try simp only [Act.put, List.setIfInBounds_toArray, List.set_cons_zero, List.set_cons_succ]
    refine wpAnyH_take (i := 44) (oi := ?oi_256) (v := undef) ?hi_256 (by kernel_rfl) ?hf_256 (by kernel_rfl) ?hQ_256 ?hy_256 (by assumption) ?_
    case hi_256 => simp only [List.getElem?_toArray, List.getElem?_cons_zero, List.getElem?_cons_succ]; try rfl
    case hf_256 => kernel_rfl
    case hQ_256 => exact fun _ _ _ h => h
    case hy_256 => exact Or.inr ⟨by rfl, rfl⟩
    try simp only [Act.put, List.setIfInBounds_toArray, List.set_cons_zero, List.set_cons_succ]
    refine wpAnyH_take (i := 45) (oi := ?oi_257) (v := undef) ?hi_257 (by kernel_rfl) ?hf_257 (by kernel_rfl) ?hQ_257 ?hy_257 (by assumption) ?_
    case hi_257 => simp only [List.getElem?_toArray, List.getElem?_cons_zero, List.getElem?_cons_succ]; try rfl
    case hf_257 => kernel_rfl
    case hQ_257 => exact fun _ _ _ h => h
    case hy_257 => exact Or.inr ⟨by rfl, rfl⟩
    try simp only [Act.put, List.setIfInBounds_toArray, List.set_cons_zero, List.set_cons_succ]
    refine wpAnyH_take (i := 46) (oi := ?oi_258) (v := undef) ?hi_258 (by kernel_rfl) ?hf_258 (by kernel_rfl) ?hQ_258 ?hy_258 (by assumption) ?_
    case hi_258 => simp only [List.getElem?_toArray, List.getElem?_cons_zero, List.getElem?_cons_succ]; try rfl
    case hf_258 => kernel_rfl
    case hQ_258 => exact fun _ _ _ h => h
    case hy_258 => exact Or.inr ⟨by rfl, rfl⟩
    try simp only [Act.put, List.setIfInBounds_toArray, List.set_cons_zero, List.set_cons_succ]
    refine wpAnyH_take (i := 47) (oi := ?oi_259) (v := undef) ?hi_259 (by kernel_rfl) ?hf_259 (by kernel_rfl) ?hQ_259 ?hy_259 (by assumption) ?_
    case hi_259 => simp only [List.getElem?_toArray, List.getElem?_cons_zero, List.getElem?_cons_succ]; try rfl
    case hf_259 => kernel_rfl
    case hQ_259 => exact fun _ _ _ h => h
    case hy_259 => exact Or.inr ⟨by rfl, rfl⟩
    try simp only [Act.put, List.setIfInBounds_toArray, List.set_cons_zero, List.set_cons_succ]
    refine wpAnyH_take (i := 48) (oi := ?oi_260) (v := undef) ?hi_260 (by kernel_rfl) ?hf_260 (by kernel_rfl) ?hQ_260 ?hy_260 (by assumption) ?_
    case hi_260 => simp only [List.getElem?_toArray, List.getElem?_cons_zero, List.getElem?_cons_succ]; try rfl
    case hf_260 => kernel_rfl
    case hQ_260 => exact fun _ _ _ h => h
    case hy_260 => exact Or.inr ⟨by rfl, rfl⟩
    try simp only [Act.put, List.setIfInBounds_toArray, List.set_cons_zero, List.set_cons_succ]
    refine wpAnyH_take (i := 49) (oi := ?oi_261) (v := undef) ?hi_261 (by kernel_rfl) ?hf_261 (by kernel_rfl) ?hQ_261 ?hy_261 (by assumption) ?_
    case hi_261 => simp only [List.getElem?_toArray, List.getElem?_cons_zero, List.getElem?_cons_succ]; try rfl
    case hf_261 => kernel_rfl
    case hQ_261 => exact fun _ _ _ h => h
    case hy_261 => exact Or.inr ⟨by rfl, rfl⟩
    try simp only [Act.put, List.setIfInBounds_toArray, List.set_cons_zero, List.set_cons_succ]
    refine wpAnyH_take (i := 50) (oi := ?oi_262) (v := undef) ?hi_262 (by kernel_rfl) ?hf_262 (by kernel_rfl) ?hQ_262 ?hy_262 (by assumption) ?_
    case hi_262 => simp only [List.getElem?_toArray, List.getElem?_cons_zero, List.getElem?_cons_succ]; try rfl
    case hf_262 => kernel_rfl
    case hQ_262 => exact fun _ _ _ h => h
    case hy_262 => exact Or.inr ⟨by rfl, rfl⟩
    try simp only [Act.put, List.setIfInBounds_toArray, List.set_cons_zero, List.set_cons_succ]
    refine wpAnyH_take (i := 51) (oi := ?oi_263) (v := undef) ?hi_263 (by kernel_rfl) ?hf_263 (by kernel_rfl) ?hQ_263 ?hy_263 (by assumption) ?_
    case hi_263 => simp only [List.getElem?_toArray, List.getElem?_cons_zero, List.getElem?_cons_succ]; try rfl
    case hf_263 => kernel_rfl
    case hQ_263 => exact fun _ _ _ h => h
    case hy_263 => exact Or.inr ⟨by rfl, rfl⟩
    try simp only [Act.put, List.setIfInBounds_toArray, List.set_cons_zero, List.set_cons_succ]
    refine wpAnyH_take (i := 52) (oi := ?oi_264) (v := undef) ?hi_264 (by kernel_rfl) ?hf_264 (by kernel_rfl) ?hQ_264 ?hy_264 (by assumption) ?_
    case hi_264 => simp only [List.getElem?_toArray, List.getElem?_cons_zero, List.getElem?_cons_succ]; try rfl
    case hf_264 => kernel_rfl
    case hQ_264 => exact fun _ _ _ h => h
    case hy_264 => exact Or.inr ⟨by rfl, rfl⟩
    try simp only [Act.put, List.setIfInBounds_toArray, List.set_cons_zero, List.set_cons_succ]
    refine wpAnyH_take (i := 53) (oi := ?oi_265) (v := undef) ?hi_265 (by kernel_rfl) ?hf_265 (by kernel_rfl) ?hQ_265 ?hy_265 (by assumption) ?_
    case hi_265 => simp only [List.getElem?_toArray, List.getElem?_cons_zero, List.getElem?_cons_succ]; try rfl
    case hf_265 => kernel_rfl
    case hQ_265 => exact fun _ _ _ h => h
    case hy_265 => exact Or.inr ⟨by rfl, rfl⟩
    try simp only [Act.put, List.setIfInBounds_toArray, List.set_cons_zero, List.set_cons_succ]
    refine wpAnyH_take (i := 54) (oi := ?oi_266) (v := ?_) ?hi_266 (by kernel_rfl) ?hf_266 (by kernel_rfl) ?hQ_266 ?hy_266 (by assumption) ?_
    case hi_266 => simp only [List.getElem?_toArray, List.getElem?_cons_zero, List.getElem?_cons_succ]; try rfl
    case hf_266 => kernel_rfl
    case hQ_266 => exact fun _ _ _ h => h
    case hy_266 =>
      refine Or.inl ⟨by rfl, ?_⟩
      intro W hSw
      obtain ⟨q3x, q3y, q4x, q4y, q5x, q5y, q8x, q8y, q9x, q9y⟩ := hSw
      go_simp
      try with_reducible rfl
    try simp only [Act.put, List.setIfInBounds_toArray, List.set_cons_zero, List.set_cons_succ]
    refine wpAnyH_take (i := 55) (oi := ?oi_267) (v := ?_) ?hi_267 (by kernel_rfl) ?hf_267 (by kernel_rfl) ?hQ_267 ?hy_267 (by assumption) ?_
    case hi_267 => simp only [List.getElem?_toArray, List.getElem?_cons_zero, List.getElem?_cons_succ]; try rfl
    case hf_267 => kernel_rfl
    case hQ_267 => exact fun _ _ _ h => h
    case hy_267 =>
      refine Or.inl ⟨by rfl, ?_⟩
      intro W hSw
      obtain ⟨q3x, q3y, q4x, q4y, q5x, q5y, q8x, q8y, q9x, q9y⟩ := hSw
      go_simp
      try with_reducible rfl
    try simp only [Act.put, List.setIfInBounds_toArray, List.set_cons_zero, List.set_cons_succ]
    refine wpAnyH_done (by kernel_rfl) ?_ _
    clear hHeld
    go_wp2
    go_ret
    exact ⟨rfl, HB2.out⟩
  | true =>
  simp only [Bool.true_and]
  cases r2 with
  | false =>
    simp only [Bool.false_and]
    go_enter Try.func36, Try.ntmps36
    go_wp2_with fail
    refine wp_region_held_drew (S := (fun W => W.cell? ⟨gx, 3, none⟩ = some (.int .i64 tabx) ∧ W.cell? ⟨gy, 3, none⟩ = some (.int .i64 tabx) ∧ W.cell? ⟨gx, 4, none⟩ = some (.slice xA4 xn4 xc4) ∧ W.cell? ⟨gy, 4, none⟩ = some (.slice yA4 yn4 yc4) ∧ W.cell? ⟨gx, 5, none⟩ = some (.slice xA5 xn5 xc5) ∧ W.cell? ⟨gy, 5, none⟩ = some (.slice yA5 yn5 yc5) ∧ W.cell? ⟨gx, 8, none⟩ = some (.slice xA8 xn8 xc8) ∧ W.cell? ⟨gy, 8, none⟩ = some (.slice yA8 yn8 yc8) ∧ W.cell? ⟨gx, 9, none⟩ = some (.slice xA9 xn9 xc9) ∧ W.cell? ⟨gy, 9, none⟩ = some (.slice yA9 yn9 yc9))) (by kernel_rfl) ⟨HX.out.cell 3, HY.out.cell 3, HX.out.cell 4, HY.out.cell 4, HX.out.cell 5, HY.out.cell 5, HX.out.cell 8, HY.out.cell 8, HX.out.cell 9, HY.out.cell 9⟩ (fun hHeld => ?_)
    refine wpAnyH_take (i := 0) (oi := ?oi_268) (v := ?_) ?hi_268 (by kernel_rfl) ?hf_268 (by kernel_rfl) ?hQ_268 ?hy_268 (by assumption) ?_
    case hi_268 => simp only [List.getElem?_toArray, List.getElem?_cons_zero, List.getElem?_cons_succ]; try rfl
    case hf_268 => kernel_rfl
    case hQ_268 => exact fun _ _ _ h => h
    case hy_268 =>
      refine Or.inl ⟨by rfl, ?_⟩
      intro W hSw
      obtain ⟨q3x, q3y, q4x, q4y, q5x, q5y, q8x, q8y, q9x, q9y⟩ := hSw
      go_simp
      try with_reducible rfl
    try simp only [Act.put, List.setIfInBounds_toArray, List.set_cons_zero, List.set_cons_succ]
    refine wpAnyH_take (i := 1) (oi := ?oi_269) (v := ?_) ?hi_269 (by kernel_rfl) ?hf_269 (by kernel_rfl) ?hQ_269 ?hy_269 (by assumption) ?_
    case hi_269 => simp only [List.getElem?_toArray, List.getElem?_cons_zero, List.getElem?_cons_succ]; try rfl
    case hf_269 => kernel_rfl
    case hQ_269 => exact fun _ _ _ h => h
    case hy_269 =>
      refine Or.inl ⟨by rfl, ?_⟩
      intro W hSw
      obtain ⟨q3x, q3y, q4x, q4y, q5x, q5y, q8x, q8y, q9x, q9y⟩ := hSw
      go_simp
      try with_reducible rfl
    try simp only [Act.put, List.setIfInBounds_toArray, List.set_cons_zero, List.set_cons_succ]
    refine wpAnyH_take (i := 2) (oi := ?oi_270) (v := ?_) ?hi_270 (by kernel_rfl) ?hf_270 (by kernel_rfl) ?hQ_270 ?hy_270 (by assumption) ?_
    case hi_270 => simp only [List.getElem?_toArray, List.getElem?_cons_zero, List.getElem?_cons_succ]; try rfl
    case hf_270 => kernel_rfl
    case hQ_270 => exact fun _ _ _ h => h
    case hy_270 =>
      refine Or.inl ⟨by rfl, ?_⟩
      intro W hSw
      obtain ⟨q3x, q3y, q4x, q4y, q5x, q5y, q8x, q8y, q9x, q9y⟩ := hSw
      go_simp
      try with_reducible rfl
    try simp only [Act.put, List.setIfInBounds_toArray, List.set_cons_zero, List.set_cons_succ]
    refine wpAnyH_take (i := 3) (oi := ?oi_271) (v := ?_) ?hi_271 (by kernel_rfl) ?hf_271 (by kernel_rfl) ?hQ_271 ?hy_271 (by assumption) ?_
    case hi_271 => simp only [List.getElem?_toArray, List.getElem?_cons_zero, List.getElem?_cons_succ]; try rfl
    case hf_271 => kernel_rfl
    case hQ_271 => exact fun _ _ _ h => h
    case hy_271 =>
      refine Or.inl ⟨by rfl, ?_⟩
      intro W hSw
      obtain ⟨q3x, q3y, q4x, q4y, q5x, q5y, q8x, q8y, q9x, q9y⟩ := hSw
      go_simp
      try with_reducible rfl
    try simp only [Act.put, List.setIfInBounds_toArray, List.set_cons_zero, List.set_cons_succ]
    refine wpAnyH_take (i := 4) (oi := ?oi_272) (v := ?_) ?hi_272 (by kernel_rfl) ?hf_272 (by kernel_rfl) ?hQ_272 ?hy_272 (by assumption) ?_
    case hi_272 => simp only [List.getElem?_toArray, List.getElem?_cons_zero, List.getElem?_cons_succ]; try rfl
    case hf_272 => kernel_rfl
    case hQ_272 => exact fun _ _ _ h => h
    case hy_272 =>
      refine Or.inl ⟨by rfl, ?_⟩
      intro W hSw
      obtain ⟨q3x, q3y, q4x, q4y, q5x, q5y, q8x, q8y, q9x, q9y⟩ := hSw
      go_simp
      try with_reducible rfl
    try simp only [Act.put, List.setIfInBounds_toArray, List.set_cons_zero, List.set_cons_succ]
    refine wpAnyH_take (i := 5) (oi := ?oi_273) (v := ?_) ?hi_273 (by kernel_rfl) ?hf_273 (by kernel_rfl) ?hQ_273 ?hy_273 (by assumption) ?_
    case hi_273 => simp only [List.getElem?_toArray, List.getElem?_cons_zero, List.getElem?_cons_succ]; try rfl
    case hf_273 => kernel_rfl
    case hQ_273 => exact fun _ _ _ h => h
    case hy_273 =>
      refine Or.inl ⟨by rfl, ?_⟩
      intro W hSw
      obtain ⟨q3x, q3y, q4x, q4y, q5x, q5y, q8x, q8y, q9x, q9y⟩ := hSw
      go_simp
      try with_reducible rfl
    try simp only [Act.put, List.setIfInBounds_toArray, List.set_cons_zero, List.set_cons_succ]
    refine wpAnyH_take (i := 6) (oi := ?oi_274) (v := ?_) ?hi_274 (by kernel_rfl) ?hf_274 (by kernel_rfl) ?hQ_274 ?hy_274 (by assumption) ?_
    case hi_274 => simp only [List.getElem?_toArray, List.getElem?_cons_zero, List.getElem?_cons_succ]; try rfl
    case hf_274 => kernel_rfl
    case hQ_274 => exact fun _ _ _ h => h
    case hy_274 =>
      refine Or.inl ⟨by rfl, ?_⟩
      intro W hSw
      obtain ⟨q3x, q3y, q4x, q4y, q5x, q5y, q8x, q8y, q9x, q9y⟩ := hSw
      go_simp
      try with_reducible rfl
    try simp only [Act.put, List.setIfInBounds_toArray, List.set_cons_zero, List.set_cons_succ]
    refine wpAnyH_take (i := 7) (oi := ?oi_275) (v := ?_) ?hi_275 (by kernel_rfl) ?hf_275 (by kernel_rfl) ?hQ_275 ?hy_275 (by assumption) ?_
    case hi_275 => simp only [List.getElem?_toArray, List.getElem?_cons_zero, List.getElem?_cons_succ]; try rfl
    case hf_275 => kernel_rfl
    case hQ_275 => exact fun _ _ _ h => h
    case hy_275 =>
      refine Or.inl ⟨by rfl, ?_⟩
      intro W hSw
      obtain ⟨q3x, q3y, q4x, q4y, q5x, q5y, q8x, q8y, q9x, q9y⟩ := hSw
      go_simp
      try with_reducible rfl
    try simp only [Act.put, List.setIfInBounds_toArray, List.set_cons_zero, List.set_cons_succ]
    refine wpAnyH_take (i := 8) (oi := ?oi_276) (v := ?_) ?hi_276 (by kernel_rfl) ?hf_276 (by kernel_rfl) ?hQ_276 ?hy_276 (by assumption) ?_
    case hi_276 => simp only [List.getElem?_toArray, List.getElem?_cons_zero, List.getElem?_cons_succ]; try rfl
    case hf_276 => kernel_rfl
    case hQ_276 => exact fun _ _ _ h => h
    case hy_276 =>
      refine Or.inl ⟨by rfl, ?_⟩
      intro W hSw
      obtain ⟨q3x, q3y, q4x, q4y, q5x, q5y, q8x, q8y, q9x, q9y⟩ := hSw
      go_simp
      try with_reducible rfl
    try simp only [Act.put, List.setIfInBounds_toArray, List.set_cons_zero, List.set_cons_succ]
    refine wpAnyH_take (i := 9) (oi := ?oi_277) (v := ?_) ?hi_277 (by kernel_rfl) ?hf_277 (by kernel_rfl) ?hQ_277 ?hy_277 (by assumption) ?_
    case hi_277 => simp only [List.getElem?_toArray, List.getElem?_cons_zero, List.getElem?_cons_succ]; try rfl
    case hf_277 => kernel_rfl
    case hQ_277 => exact fun _ _ _ h => h
    case hy_277 =>
      refine Or.inl ⟨by rfl, ?_⟩
      intro W hSw
      obtain ⟨q3x, q3y, q4x, q4y, q5x, q5y, q8x, q8y, q9x, q9y⟩ := hSw
      go_simp
      try with_reducible rfl
    try simp only [Act.put, List.setIfInBounds_toArray, List.set_cons_zero, List.set_cons_succ]
    refine wpAnyH_take (i := 10) (oi := ?oi_278) (v := ?_) ?hi_278 (by kernel_rfl) ?hf_278 (by kernel_rfl) ?hQ_278 ?hy_278 (by assumption) ?_
    case hi_278 => simp only [List.getElem?_toArray, List.getElem?_cons_zero, List.getElem?_cons_succ]; try rfl
    case hf_278 => kernel_rfl
    case hQ_278 => exact fun _ _ _ h => h
    case hy_278 =>
      refine Or.inl ⟨by rfl, ?_⟩
      intro W hSw
      obtain ⟨q3x, q3y, q4x, q4y, q5x, q5y, q8x, q8y, q9x, q9y⟩ := hSw
      go_simp
      try with_reducible rfl
    try simp only [Act.put, List.setIfInBounds_toArray, List.set_cons_zero, List.set_cons_succ]
    refine wpAnyH_take (i := 11) (oi := ?oi_279) (v := ?_) ?hi_279 (by kernel_rfl) ?hf_279 (by kernel_rfl) ?hQ_279 ?hy_279 (by assumption) ?_
    case hi_279 => simp only [List.getElem?_toArray, List.getElem?_cons_zero, List.getElem?_cons_succ]; try rfl
    case hf_279 => kernel_rfl
    case hQ_279 => exact fun _ _ _ h => h
    case hy_279 =>
      refine Or.inl ⟨by rfl, ?_⟩
      intro W hSw
      obtain ⟨q3x, q3y, q4x, q4y, q5x, q5y, q8x, q8y, q9x, q9y⟩ := hSw
      go_simp
      try with_reducible rfl
    try simp only [Act.put, List.setIfInBounds_toArray, List.set_cons_zero, List.set_cons_succ]
    refine wpAnyH_take (i := 12) (oi := ?oi_280) (v := ?_) ?hi_280 (by kernel_rfl) ?hf_280 (by kernel_rfl) ?hQ_280 ?hy_280 (by assumption) ?_
    case hi_280 => simp only [List.getElem?_toArray, List.getElem?_cons_zero, List.getElem?_cons_succ]; try rfl
    case hf_280 => kernel_rfl
    case hQ_280 => exact fun _ _ _ h => h
    case hy_280 =>
      refine Or.inl ⟨by rfl, ?_⟩
      intro W hSw
      obtain ⟨q3x, q3y, q4x, q4y, q5x, q5y, q8x, q8y, q9x, q9y⟩ := hSw
      go_simp
      try with_reducible rfl
    try simp only [Act.put, List.setIfInBounds_toArray, List.set_cons_zero, List.set_cons_succ]
    refine wpAnyH_take (i := 13) (oi := ?oi_281) (v := ?_) ?hi_281 (by kernel_rfl) ?hf_281 (by kernel_rfl) ?hQ_281 ?hy_281 (by assumption) ?_
    case hi_281 => simp only [List.getElem?_toArray, List.getElem?_cons_zero, List.getElem?_cons_succ]; try rfl
    case hf_281 => kernel_rfl
    case hQ_281 => exact fun _ _ _ h => h
    case hy_281 =>
      refine Or.inl ⟨by rfl, ?_⟩
      intro W hSw
      obtain ⟨q3x, q3y, q4x, q4y, q5x, q5y, q8x, q8y, q9x, q9y⟩ := hSw
      go_simp
      try with_reducible rfl
    try simp only [Act.put, List.setIfInBounds_toArray, List.set_cons_zero, List.set_cons_succ]
    refine wpAnyH_take (i := 14) (oi := ?oi_282) (v := ?_) ?hi_282 (by kernel_rfl) ?hf_282 (by kernel_rfl) ?hQ_282 ?hy_282 (by assumption) ?_
    case hi_282 => simp only [List.getElem?_toArray, List.getElem?_cons_zero, List.getElem?_cons_succ]; try rfl
    case hf_282 => kernel_rfl
    case hQ_282 => exact fun _ _ _ h => h
    case hy_282 =>
      refine Or.inl ⟨by rfl, ?_⟩
      intro W hSw
      obtain ⟨q3x, q3y, q4x, q4y, q5x, q5y, q8x, q8y, q9x, q9y⟩ := hSw
      go_simp
      try with_reducible rfl
    try simp only [Act.put, List.setIfInBounds_toArray, List.set_cons_zero, List.set_cons_succ]
    refine wpAnyH_take (i := 15) (oi := ?oi_283) (v := ?_) ?hi_283 (by kernel_rfl) ?hf_283 (by kernel_rfl) ?hQ_283 ?hy_283 (by assumption) ?_
    case hi_283 => simp only [List.getElem?_toArray, List.getElem?_cons_zero, List.getElem?_cons_succ]; try rfl
    case hf_283 => kernel_rfl
    case hQ_283 => exact fun _ _ _ h => h
    case hy_283 =>
      refine Or.inl ⟨by rfl, ?_⟩
      intro W hSw
      obtain ⟨q3x, q3y, q4x, q4y, q5x, q5y, q8x, q8y, q9x, q9y⟩ := hSw
      go_simp
      try with_reducible rfl
    try simp only [Act.put, List.setIfInBounds_toArray, List.set_cons_zero, List.set_cons_succ]
    refine wpAnyH_take (i := 16) (oi := ?oi_284) (v := ?_) ?hi_284 (by kernel_rfl) ?hf_284 (by kernel_rfl) ?hQ_284 ?hy_284 (by assumption) ?_
    case hi_284 => simp only [List.getElem?_toArray, List.getElem?_cons_zero, List.getElem?_cons_succ]; try rfl
    case hf_284 => kernel_rfl
    case hQ_284 => exact fun _ _ _ h => h
    case hy_284 =>
      refine Or.inl ⟨by rfl, ?_⟩
      intro W hSw
      obtain ⟨q3x, q3y, q4x, q4y, q5x, q5y, q8x, q8y, q9x, q9y⟩ := hSw
      go_simp
      try with_reducible rfl
    try simp only [Act.put, List.setIfInBounds_toArray, List.set_cons_zero, List.set_cons_succ]
    refine wpAnyH_take (i := 17) (oi := ?oi_285) (v := ?_) ?hi_285 (by kernel_rfl) ?hf_285 (by kernel_rfl) ?hQ_285 ?hy_285 (by assumption) ?_
    case hi_285 => simp only [List.getElem?_toArray, List.getElem?_cons_zero, List.getElem?_cons_succ]; try rfl
    case hf_285 => kernel_rfl
    case hQ_285 => exact fun _ _ _ h => h
    case hy_285 =>
      refine Or.inl ⟨by rfl, ?_⟩
      intro W hSw
      obtain ⟨q3x, q3y, q4x, q4y, q5x, q5y, q8x, q8y, q9x, q9y⟩ := hSw
      go_simp
      try with_reducible rfl
    try simp only [Act.put, List.setIfInBounds_toArray, List.set_cons_zero, List.set_cons_succ]
    refine wpAnyH_ready (rs := [18]) (by kernel_rfl) (by simp) ?_
    refine AllReadyH.cons (o := ?oi_286) ?hi_286 (fun K hK => ?_) AllReadyH.nil
    case hi_286 => simp only [List.getElem?_toArray, List.getElem?_cons_zero, List.getElem?_cons_succ]; try rfl
    go_simp
    (go_at_call 58
     with_reducible refine (E0.out _ HD.out).mono ?_
     rintro e w1 ⟨rfl, hb1⟩
     have HB1 : Hid (Below w.heap.size w w1) := Lib.hid (HD.out.trans (hb1.mono HD.out.size))
     clear hb1)
    refine hK.out _ _ ⟨(HX.out.below HB1.out HX.out.lt).cell 3, (HY.out.below HB1.out HY.out.lt).cell 3, (HX.out.below HB1.out HX.out.lt).cell 4, (HY.out.below HB1.out HY.out.lt).cell 4, (HX.out.below HB1.out HX.out.lt).cell 5, (HY.out.below HB1.out HY.out.lt).cell 5, (HX.out.below HB1.out HX.out.lt).cell 8, (HY.out.below HB1.out HY.out.lt).cell 8, (HX.out.below HB1.out HX.out.lt).cell 9, (HY.out.below HB1.out HY.out.lt).cell 9⟩ (fun hHeld => ?_)
    clear hK K
    try simp only [Act.put, List.setIfInBounds_toArray, List.set_cons_zero, List.set_cons_succ]
    refine wpAnyH_take (i := 19) (oi := ?oi_287) (v := ?_) ?hi_287 (by kernel_rfl) ?hf_287 (by kernel_rfl) ?hQ_287 ?hy_287 (by assumption) ?_
    case hi_287 => simp only [List.getElem?_toArray, List.getElem?_cons_zero, List.getElem?_cons_succ]; try rfl
    case hf_287 => kernel_rfl
    case hQ_287 => exact fun _ _ _ h => h
    case hy_287 =>
      refine Or.inl ⟨by rfl, ?_⟩
      intro W hSw
      obtain ⟨q3x, q3y, q4x, q4y, q5x, q5y, q8x, q8y, q9x, q9y⟩ := hSw
      go_simp
      try with_reducible rfl
    try simp only [Act.put, List.setIfInBounds_toArray, List.set_cons_zero, List.set_cons_succ]
    refine wpAnyH_take (i := 20) (oi := ?oi_288) (v := ?_) ?hi_288 (by kernel_rfl) ?hf_288 (by kernel_rfl) ?hQ_288 ?hy_288 (by assumption) ?_
    case hi_288 => simp only [List.getElem?_toArray, List.getElem?_cons_zero, List.getElem?_cons_succ]; try rfl
    case hf_288 => kernel_rfl
    case hQ_288 => exact fun _ _ _ h => h
    case hy_288 =>
      refine Or.inl ⟨by rfl, ?_⟩
      intro W hSw
      obtain ⟨q3x, q3y, q4x, q4y, q5x, q5y, q8x, q8y, q9x, q9y⟩ := hSw
      go_simp
      try with_reducible rfl
    try simp only [Act.put, List.setIfInBounds_toArray, List.set_cons_zero, List.set_cons_succ]
    refine wpAnyH_take (i := 21) (oi := ?oi_289) (v := ?_) ?hi_289 (by kernel_rfl) ?hf_289 (by kernel_rfl) ?hQ_289 ?hy_289 (by assumption) ?_
    case hi_289 => simp only [List.getElem?_toArray, List.getElem?_cons_zero, List.getElem?_cons_succ]; try rfl
    case hf_289 => kernel_rfl
    case hQ_289 => exact fun _ _ _ h => h
    case hy_289 =>
      refine Or.inl ⟨by rfl, ?_⟩
      intro W hSw
      obtain ⟨q3x, q3y, q4x, q4y, q5x, q5y, q8x, q8y, q9x, q9y⟩ := hSw
      go_simp
      try with_reducible rfl
    try simp only [Act.put, List.setIfInBounds_toArray, List.set_cons_zero, List.set_cons_succ]
    refine wpAnyH_take (i := 22) (oi := ?oi_290) (v := ?_) ?hi_290 (by kernel_rfl) ?hf_290 (by kernel_rfl) ?hQ_290 ?hy_290 (by assumption) ?_
    case hi_290 => simp only [List.getElem?_toArray, List.getElem?_cons_zero, List.getElem?_cons_succ]; try rfl
    case hf_290 => kernel_rfl
    case hQ_290 => exact fun _ _ _ h => h
    case hy_290 =>
      refine Or.inl ⟨by rfl, ?_⟩
      intro W hSw
      obtain ⟨q3x, q3y, q4x, q4y, q5x, q5y, q8x, q8y, q9x, q9y⟩ := hSw
      go_simp
      try with_reducible rfl
    try simp only [Act.put, List.setIfInBounds_toArray, List.set_cons_zero, List.set_cons_succ]
    refine wpAnyH_take (i := 23) (oi := ?oi_291) (v := ?_) ?hi_291 (by kernel_rfl) ?hf_291 (by kernel_rfl) ?hQ_291 ?hy_291 (by assumption) ?_
    case hi_291 => simp only [List.getElem?_toArray, List.getElem?_cons_zero, List.getElem?_cons_succ]; try rfl
    case hf_291 => kernel_rfl
    case hQ_291 => exact fun _ _ _ h => h
    case hy_291 =>
      refine Or.inl ⟨by rfl, ?_⟩
      intro W hSw
      obtain ⟨q3x, q3y, q4x, q4y, q5x, q5y, q8x, q8y, q9x, q9y⟩ := hSw
      go_simp
      try with_reducible rfl
    try simp only [Act.put, List.setIfInBounds_toArray, List.set_cons_zero, List.set_cons_succ]
    refine wpAnyH_take (i := 24) (oi := ?oi_292) (v := ?_) ?hi_292 (by kernel_rfl) ?hf_292 (by kernel_rfl) ?hQ_292 ?hy_292 (by assumption) ?_
    case hi_292 => simp only [List.getElem?_toArray, List.getElem?_cons_zero, List.getElem?_cons_succ]; try rfl
    case hf_292 => kernel_rfl
    case hQ_292 => exact fun _ _ _ h => h
    case hy_292 =>
      refine Or.inl ⟨by rfl, ?_⟩
      intro W hSw
      obtain ⟨q3x, q3y, q4x, q4y, q5x, q5y, q8x, q8y, q9x, q9y⟩ := hSw
      go_simp
      try with_reducible rfl
    try simp only [Act.put, List.setIfInBounds_toArray, List.set_cons_zero, List.set_cons_succ]
    refine wpAnyH_take (i := 25) (oi := ?oi_293) (v := ?_) ?hi_293 (by kernel_rfl) ?hf_293 (by kernel_rfl) ?hQ_293 ?hy_293 (by assumption) ?_
    case hi_293 => simp only [List.getElem?_toArray, List.getElem?_cons_zero, List.getElem?_cons_succ]; try rfl
    case hf_293 => kernel_rfl
    case hQ_293 => exact fun _ _ _ h => h
    case hy_293 =>
      refine Or.inl ⟨by rfl, ?_⟩
      intro W hSw
      obtain ⟨q3x, q3y, q4x, q4y, q5x, q5y, q8x, q8y, q9x, q9y⟩ := hSw
      go_simp
      try with_reducible rfl
    try simp only [Act.put, List.setIfInBounds_toArray, List.set_cons_zero, List.set_cons_succ]
    refine wpAnyH_take (i := 26) (oi := ?oi_294) (v := ?_) ?hi_294 (by kernel_rfl) ?hf_294 (by kernel_rfl) ?hQ_294 ?hy_294 (by assumption) ?_
    case hi_294 => simp only [List.getElem?_toArray, List.getElem?_cons_zero, List.getElem?_cons_succ]; try rfl
    case hf_294 => kernel_rfl
    case hQ_294 => exact fun _ _ _ h => h
    case hy_294 =>
      refine Or.inl ⟨by rfl, ?_⟩
      intro W hSw
      obtain ⟨q3x, q3y, q4x, q4y, q5x, q5y, q8x, q8y, q9x, q9y⟩ := hSw
      go_simp
      try with_reducible rfl
    try simp only [Act.put, List.setIfInBounds_toArray, List.set_cons_zero, List.set_cons_succ]
    refine wpAnyH_take (i := 27) (oi := ?oi_295) (v := ?_) ?hi_295 (by kernel_rfl) ?hf_295 (by kernel_rfl) ?hQ_295 ?hy_295 (by assumption) ?_
    case hi_295 => simp only [List.getElem?_toArray, List.getElem?_cons_zero, List.getElem?_cons_succ]; try rfl
    case hf_295 => kernel_rfl
    case hQ_295 => exact fun _ _ _ h => h
    case hy_295 =>
      refine Or.inl ⟨by rfl, ?_⟩
      intro W hSw
      obtain ⟨q3x, q3y, q4x, q4y, q5x, q5y, q8x, q8y, q9x, q9y⟩ := hSw
      go_simp
      try with_reducible rfl
    try simp only [Act.put, List.setIfInBounds_toArray, List.set_cons_zero, List.set_cons_succ]
    refine wpAnyH_take (i := 28) (oi := ?oi_296) (v := ?_) ?hi_296 (by kernel_rfl) ?hf_296 (by kernel_rfl) ?hQ_296 ?hy_296 (by assumption) ?_
    case hi_296 => simp only [List.getElem?_toArray, List.getElem?_cons_zero, List.getElem?_cons_succ]; try rfl
    case hf_296 => kernel_rfl
    case hQ_296 => exact fun _ _ _ h => h
    case hy_296 =>
      refine Or.inl ⟨by rfl, ?_⟩
      intro W hSw
      obtain ⟨q3x, q3y, q4x, q4y, q5x, q5y, q8x, q8y, q9x, q9y⟩ := hSw
      go_simp
      try with_reducible rfl
    try simp only [Act.put, List.setIfInBounds_toArray, List.set_cons_zero, List.set_cons_succ]
    refine wpAnyH_ready (rs := [29]) (by kernel_rfl) (by simp) ?_
    refine AllReadyH.cons (o := ?oi_297) ?hi_297 (fun K hK => ?_) AllReadyH.nil
    case hi_297 => simp only [List.getElem?_toArray, List.getElem?_cons_zero, List.getElem?_cons_succ]; try rfl
    go_simp
    (go_at_call 59
     with_reducible refine (E1.out _ HB1.out).mono ?_
     rintro e w2 ⟨rfl, hb2⟩
     have HB2 : Hid (Below w.heap.size w w2) := Lib.hid (HB1.out.trans (hb2.mono HB1.out.size))
     clear hb2)
    refine hK.out _ _ ⟨(HX.out.below HB2.out HX.out.lt).cell 3, (HY.out.below HB2.out HY.out.lt).cell 3, (HX.out.below HB2.out HX.out.lt).cell 4, (HY.out.below HB2.out HY.out.lt).cell 4, (HX.out.below HB2.out HX.out.lt).cell 5, (HY.out.below HB2.out HY.out.lt).cell 5, (HX.out.below HB2.out HX.out.lt).cell 8, (HY.out.below HB2.out HY.out.lt).cell 8, (HX.out.below HB2.out HX.out.lt).cell 9, (HY.out.below HB2.out HY.out.lt).cell 9⟩ (fun hHeld => ?_)
    clear hK K
    try simp only [Act.put, List.setIfInBounds_toArray, List.set_cons_zero, List.set_cons_succ]
    refine wpAnyH_take (i := 30) (oi := ?oi_298) (v := ?_) ?hi_298 (by kernel_rfl) ?hf_298 (by kernel_rfl) ?hQ_298 ?hy_298 (by assumption) ?_
    case hi_298 => simp only [List.getElem?_toArray, List.getElem?_cons_zero, List.getElem?_cons_succ]; try rfl
    case hf_298 => kernel_rfl
    case hQ_298 => exact fun _ _ _ h => h
    case hy_298 =>
      refine Or.inl ⟨by rfl, ?_⟩
      intro W hSw
      obtain ⟨q3x, q3y, q4x, q4y, q5x, q5y, q8x, q8y, q9x, q9y⟩ := hSw
      go_simp
      try with_reducible rfl
    try simp only [Act.put, List.setIfInBounds_toArray, List.set_cons_zero, List.set_cons_succ]
    refine wpAnyH_take (i := 31) (oi := ?oi_299) (v := ?_) ?hi_299 (by kernel_rfl) ?hf_299 (by kernel_rfl) ?hQ_299 ?hy_299 (by assumption) ?_
    case hi_299 => simp only [List.getElem?_toArray, List.getElem?_cons_zero, List.getElem?_cons_succ]; try rfl
    case hf_299 => kernel_rfl
    case hQ_299 => exact fun _ _ _ h => h
    case hy_299 =>
      refine Or.inl ⟨by rfl, ?_⟩
      intro W hSw
      obtain ⟨q3x, q3y, q4x, q4y, q5x, q5y, q8x, q8y, q9x, q9y⟩ := hSw
      go_simp
      try with_reducible rfl
    try simp only [Act.put, List.setIfInBounds_toArray, List.set_cons_zero, List.set_cons_succ]
    refine wpAnyH_take (i := 32) (oi := ?oi_300) (v := ?_) ?hi_300 (by kernel_rfl) ?hf_300 (by kernel_rfl) ?hQ_300 ?hy_300 (by assumption) ?_
    case hi_300 => simp only [List.getElem?_toArray, List.getElem?_cons_zero, List.getElem?_cons_succ]; try rfl
    case hf_300 => kernel_rfl
    case hQ_300 => exact fun _ _ _ h => h
    case hy_300 =>
      refine Or.inl ⟨by rfl, ?_⟩
      intro W hSw
      obtain ⟨q3x, q3y, q4x, q4y, q5x, q5y, q8x, q8y, q9x, q9y⟩ := hSw
      go_simp
      try with_reducible rfl
    try simp only [Act.put, List.setIfInBounds_toArray, List.set_cons_zero, List.set_cons_succ]
    refine wpAnyH_take (i := 33) (oi := ?oi_301) (v := ?_) ?hi_301 (by kernel_rfl) ?hf_301 (by kernel_rfl) ?hQ_301 ?hy_301 (by assumption) ?_
    case hi_301 => simp only [List.getElem?_toArray, List.getElem?_cons_zero, List.getElem?_cons_succ]; try rfl
    case hf_301 => kernel_rfl
    case hQ_301 => exact fun _ _ _ h => h
    case hy_301 =>
      refine Or.inl ⟨by rfl, ?_⟩
      intro W hSw
      obtain ⟨q3x, q3y, q4x, q4y, q5x, q5y, q8x, q8y, q9x, q9y⟩ := hSw
      go_simp
      try with_reducible rfl
    try simp only [Act.put, List.setIfInBounds_toArray, List.set_cons_zero, List.set_cons_succ]
    refine wpAnyH_take (i := 34) (oi := ?oi_302) (v := ?_) ?hi_302 (by kernel_rfl) ?hf_302 (by kernel_rfl) ?hQ_302 ?hy_302 (by assumption) ?_
    case hi_302 => simp only [List.getElem?_toArray, List.getElem?_cons_zero, List.getElem?_cons_succ]; try rfl
    case hf_302 => kernel_rfl
    case hQ_302 => exact fun _ _ _ h => h
    case hy_302 =>
      refine Or.inl ⟨by rfl, ?_⟩
      intro W hSw
      obtain ⟨q3x, q3y, q4x, q4y, q5x, q5y, q8x, q8y, q9x, q9y⟩ := hSw
      go_simp
      try with_reducible rfl
    try simp only [Act.put, List.setIfInBounds_toArray, List.set_cons_zero, List.set_cons_succ]
    refine wpAnyH_take (i := 35) (oi := ?oi_303) (v := ?_) ?hi_303 (by kernel_rfl) ?hf_303 (by kernel_rfl) ?hQ_303 ?hy_303 (by assumption) ?_
    case hi_303 => simp only [List.getElem?_toArray, List.getElem?_cons_zero, List.getElem?_cons_succ]; try rfl
    case hf_303 => kernel_rfl
    case hQ_303 => exact fun _ _ _ h => h
    case hy_303 =>
      refine Or.inl ⟨by rfl, ?_⟩
      intro W hSw
      obtain ⟨q3x, q3y, q4x, q4y, q5x, q5y, q8x, q8y, q9x, q9y⟩ := hSw
      go_simp
      try with_reducible rfl
    try simp only [Act.put, List.setIfInBounds_toArray, List.set_cons_zero, List.set_cons_succ]
    refine wpAnyH_take (i := 36) (oi := ?oi_304) (v := ?_) ?hi_304 (by kernel_rfl) ?hf_304 (by kernel_rfl) ?hQ_304 ?hy_304 (by assumption) ?_
    case hi_304 => simp only [List.getElem?_toArray, List.getElem?_cons_zero, List.getElem?_cons_succ]; try rfl
    case hf_304 => kernel_rfl
    case hQ_304 => exact fun _ _ _ h => h
    case hy_304 =>
      refine Or.inl ⟨by rfl, ?_⟩
      intro W hSw
      obtain ⟨q3x, q3y, q4x, q4y, q5x, q5y, q8x, q8y, q9x, q9y⟩ := hSw
      go_simp
      try with_reducible rfl
    try simp only [Act.put, List.setIfInBounds_toArray, List.set_cons_zero, List.set_cons_succ]
    refine wpAnyH_take (i := 37) (oi := ?oi_305) (v := ?_) ?hi_305 (by kernel_rfl) ?hf_305 (by kernel_rfl) ?hQ_305 ?hy_305 (by assumption) ?_
    case hi_305 => simp only [List.getElem?_toArray, List.getElem?_cons_zero, List.getElem?_cons_succ]; try rfl
    case hf_305 => kernel_rfl
    case hQ_305 => exact fun _ _ _ h => h
    case hy_305 =>
      refine Or.inl ⟨by rfl, ?_⟩
      intro W hSw
      obtain ⟨q3x, q3y, q4x, q4y, q5x, q5y, q8x, q8y, q9x, q9y⟩ := hSw
      go_simp
      try with_reducible rfl
    try simp only [Act.put, List.setIfInBounds_toArray, List.set_cons_zero, List.set_cons_succ]
    refine wpAnyH_take (i := 38) (oi := ?oi_306) (v := ?_) ?hi_306 (by kernel_rfl) ?hf_306 (by kernel_rfl) ?hQ_306 ?hy_306 (by assumption) ?_
    case hi_306 => simp only [List.getElem?_toArray, List.getElem?_cons_zero, List.getElem?_cons_succ]; try rfl
    case hf_306 => kernel_rfl
    case hQ_306 => exact fun _ _ _ h => h
    case hy_306 =>
      refine Or.inl ⟨by rfl, ?_⟩
      intro W hSw
      obtain ⟨q3x, q3y, q4x, q4y, q5x, q5y, q8x, q8y, q9x, q9y⟩ := hSw
      go_simp
      try with_reducible rfl
    try simp only [Act.put, List.setIfInBounds_toArray, List.set_cons_zero, List.set_cons_succ]
    refine wpAnyH_take (i := 39) (oi := ?oi_307) (v := ?_) ?hi_307 (by kernel_rfl) ?hf_307 (by kernel_rfl) ?hQ_307 ?hy_307 (by assumption) ?_
    case hi_307 => simp only [List.getElem?_toArray, List.getElem?_cons_zero, List.getElem?_cons_succ]; try rfl
    case hf_307 => kernel_rfl
    case hQ_307 => exact fun _ _ _ h => h
    case hy_307 =>
      refine Or.inl ⟨by rfl, ?_⟩
      intro W hSw
      obtain ⟨q3x, q3y, q4x, q4y, q5x, q5y, q8x, q8y, q9x, q9y⟩ := hSw
      go_simp
      try with_reducible rfl
    try simp only [Act.put, List.setIfInBounds_toArray, List.set_cons_zero, List.set_cons_succ]
    refine wpAnyH_take (i := 40) (oi := ?oi_308) (v := ?_) ?hi_308 (by kernel_rfl) ?hf_308 (by kernel_rfl) ?hQ_308 ?hy_308 (by assumption) ?_
    case hi_308 => simp only [List.getElem?_toArray, List.getElem?_cons_zero, List.getElem?_cons_succ]; try rfl
    case hf_308 => kernel_rfl
    case hQ_308 => exact fun _ _ _ h => h
    case hy_308 =>
      refine Or.inl ⟨by rfl, ?_⟩
      intro W hSw
      obtain ⟨q3x, q3y, q4x, q4y, q5x, q5y, q8x, q8y, q9x, q9y⟩ := hSw
      go_simp
      try with_reducible rfl
    try simp only [Act.put, List.setIfInBounds_toArray, List.set_cons_zero, List.set_cons_succ]
    refine wpAnyH_ready (rs := [41]) (by kernel_rfl) (by simp) ?_
    refine AllReadyH.cons (o := ?oi_309) ?hi_309 (fun K hK => ?_) AllReadyH.nil
    case hi_309 => simp only [List.getElem?_toArray, List.getElem?_cons_zero, List.getElem?_cons_succ]; try rfl
    go_simp
    (go_at_call 60
     with_reducible refine (E2.out _ HB2.out).mono ?_
     rintro e w3 ⟨rfl, hb3⟩
     have HB3 : Hid (Below w.heap.size w w3) := Lib.hid (HB2.out.trans (hb3.mono HB2.out.size))
     clear hb3)
    refine hK.out _ _ ⟨(HX.out.below HB3.out HX.out.lt).cell 3, (HY.out.below HB3.out HY.out.lt).cell 3, (HX.out.below HB3.out HX.out.lt).cell 4, (HY.out.below HB3.out HY.out.lt).cell 4, (HX.out.below HB3.out HX.out.lt).cell 5, (HY.out.below HB3.out HY.out.lt).cell 5, (HX.out.below HB3.out HX.out.lt).cell 8, (HY.out.below HB3.out HY.out.lt).cell 8, (HX.out.below HB3.out HX.out.lt).cell 9, (HY.out.below HB3.out HY.out.lt).cell 9⟩ (fun hHeld => ?_)
    clear hK K
    try simp only [Act.put, List.setIfInBounds_toArray, List.set_cons_zero, List.set_cons_succ]
    refine wpAnyH_take (i := 42) (oi := ?oi_310) (v := ?_) ?hi_310 (by kernel_rfl) ?hf_310 (by kernel_rfl) ?hQ_310 ?hy_310 (by assumption) ?_
    case hi_310 => simp only [List.getElem?_toArray, List.getElem?_cons_zero, List.getElem?_cons_succ]; try rfl
    case hf_310 => kernel_rfl
    case hQ_310 => exact fun _ _ _ h => h
    case hy_310 =>
      refine Or.inl ⟨by rfl, ?_⟩
      intro W hSw
      obtain ⟨q3x, q3y, q4x, q4y, q5x, q5y, q8x, q8y, q9x, q9y⟩ := hSw
      go_simp
      try with_reducible rfl
    try simp only [Act.put, List.setIfInBounds_toArray, List.set_cons_zero, List.set_cons_succ]
    refine wpAnyH_take (i := 43) (oi := ?oi_311) (v := ?_) ?hi_311 (by kernel_rfl) ?hf_311 (by kernel_rfl) ?hQ_311 ?hy_311 (by assumption) ?_
    case hi_311 => simp only [List.getElem?_toArray, List.getElem?_cons_zero, List.getElem?_cons_succ]; try rfl
    case hf_311 => kernel_rfl
    case hQ_311 => exact fun _ _ _ h => h
    case hy_311 =>
      refine Or.inl ⟨by rfl, ?_⟩
      intro W hSw
      obtain ⟨q3x, q3y, q4x, q4y, q5x, q5y, q8x, q8y, q9x, q9y⟩ := hSw
      go_simp
      try with_reducible rfl
    try simp only [Act.put, List.setIfInBounds_toArray, List.set_cons_zero, List.set_cons_succ]
    refine wpAnyH_take (i := 44) (oi := ?oi_312) (v := undef) ?hi_312 (by kernel_rfl) ?hf_312 (by kernel_rfl) ?hQ_312 ?hy_312 (by assumption) ?_
    case hi_312 => simp only [List.getElem?_toArray, List.getElem?_cons_zero, List.getElem?_cons_succ]; try rfl
    case hf_312 => kernel_rfl
    case hQ_312 => exact fun _ _ _ h => h
    case hy_312 => exact Or.inr ⟨by rfl, rfl⟩
    try simp only [Act.put, List.setIfInBounds_toArray, List.set_cons_zero, List.set_cons_succ]
    refine wpAnyH_take (i := 45) (oi := ?oi_313) (v := undef) ?hi_313 (by kernel_rfl) ?hf_313 (by kernel_rfl) ?hQ_313 ?hy_313 (by assumption) ?_
    case hi_313 => simp only [List.getElem?_toArray, List.getElem?_cons_zero, List.getElem?_cons_succ]; try rfl
    case hf_313 => kernel_rfl
    case hQ_313 => exact fun _ _ _ h => h
    case hy_313 => exact Or.inr ⟨by rfl, rfl⟩
    try simp only [Act.put, List.setIfInBounds_toArray, List.set_cons_zero, List.set_cons_succ]
    refine wpAnyH_take (i := 46) (oi := ?oi_314) (v := undef) ?hi_314 (by kernel_rfl) ?hf_314 (by kernel_rfl) ?hQ_314 ?hy_314 (by assumption) ?_
    case hi_314 => simp only [List.getElem?_toArray, List.getElem?_cons_zero, List.getElem?_cons_succ]; try rfl
    case hf_314 => kernel_rfl
    case hQ_314 => exact fun _ _ _ h => h
    case hy_314 => exact Or.inr ⟨by rfl, rfl⟩
    try simp only [Act.put, List.setIfInBounds_toArray, List.set_cons_zero, List.set_cons_succ]
    refine wpAnyH_take (i := 47) (oi := ?oi_315) (v := undef) ?hi_315 (by kernel_rfl) ?hf_315 (by kernel_rfl) ?hQ_315 ?hy_315 (by assumption) ?_
    case hi_315 => simp only [List.getElem?_toArray, List.getElem?_cons_zero, List.getElem?_cons_succ]; try rfl
    case hf_315 => kernel_rfl
    case hQ_315 => exact fun _ _ _ h => h
    case hy_315 => exact Or.inr ⟨by rfl, rfl⟩
    try simp only [Act.put, List.setIfInBounds_toArray, List.set_cons_zero, List.set_cons_succ]
    refine wpAnyH_take (i := 48) (oi := ?oi_316) (v := undef) ?hi_316 (by kernel_rfl) ?hf_316 (by kernel_rfl) ?hQ_316 ?hy_316 (by assumption) ?_
    case hi_316 => simp only [List.getElem?_toArray, List.getElem?_cons_zero, List.getElem?_cons_succ]; try rfl
    case hf_316 => kernel_rfl
    case hQ_316 => exact fun _ _ _ h => h
    case hy_316 => exact Or.inr ⟨by rfl, rfl⟩
    try simp only [Act.put, List.setIfInBounds_toArray, List.set_cons_zero, List.set_cons_succ]
    refine wpAnyH_take (i := 49) (oi := ?oi_317) (v := undef) ?hi_317 (by kernel_rfl) ?hf_317 (by kernel_rfl) ?hQ_317 ?hy_317 (by assumption) ?_
    case hi_317 => simp only [List.getElem?_toArray, List.getElem?_cons_zero, List.getElem?_cons_succ]; try rfl
    case hf_317 => kernel_rfl
    case hQ_317 => exact fun _ _ _ h => h
    case hy_317 => exact Or.inr ⟨by rfl, rfl⟩
    try simp only [Act.put, List.setIfInBounds_toArray, List.set_cons_zero, List.set_cons_succ]
    refine wpAnyH_take (i := 50) (oi := ?oi_318) (v := undef) ?hi_318 (by kernel_rfl) ?hf_318 (by kernel_rfl) ?hQ_318 ?hy_318 (by assumption) ?_
    case hi_318 => simp only [List.getElem?_toArray, List.getElem?_cons_zero, List.getElem?_cons_succ]; try rfl
    case hf_318 => kernel_rfl
    case hQ_318 => exact fun _ _ _ h => h
    case hy_318 => exact Or.inr ⟨by rfl, rfl⟩
    try simp only [Act.put, List.setIfInBounds_toArray, List.set_cons_zero, List.set_cons_succ]
    refine wpAnyH_take (i := 51) (oi := ?oi_319) (v := undef) ?hi_319 (by kernel_rfl) ?hf_319 (by kernel_rfl) ?hQ_319 ?hy_319 (by assumption) ?_
    case hi_319 => simp only [List.getElem?_toArray, List.getElem?_cons_zero, List.getElem?_cons_succ]; try rfl
    case hf_319 => kernel_rfl
    case hQ_319 => exact fun _ _ _ h => h
    case hy_319 => exact Or.inr ⟨by rfl, rfl⟩
    try simp only [Act.put, List.setIfInBounds_toArray, List.set_cons_zero, List.set_cons_succ]
    refine wpAnyH_take (i := 52) (oi := ?oi_320) (v := undef) ?hi_320 (by kernel_rfl) ?hf_320 (by kernel_rfl) ?hQ_320 ?hy_320 (by assumption) ?_
    case hi_320 => simp only [List.getElem?_toArray, List.getElem?_cons_zero, List.getElem?_cons_succ]; try rfl
    case hf_320 => kernel_rfl
    case hQ_320 => exact fun _ _ _ h => h
    case hy_320 => exact Or.inr ⟨by rfl, rfl⟩
    try simp only [Act.put, List.setIfInBounds_toArray, List.set_cons_zero, List.set_cons_succ]
    refine wpAnyH_take (i := 53) (oi := ?oi_321) (v := undef) ?hi_321 (by kernel_rfl) ?hf_321 (by kernel_rfl) ?hQ_321 ?hy_321 (by assumption) ?_
    case hi_321 => simp only [List.getElem?_toArray, List.getElem?_cons_zero, List.getElem?_cons_succ]; try rfl
    case hf_321 => kernel_rfl
    case hQ_321 => exact fun _ _ _ h => h
    case hy_321 => exact Or.inr ⟨by rfl, rfl⟩
    try simp only [Act.put, List.setIfInBounds_toArray, List.set_cons_zero, List.set_cons_succ]
    refine wpAnyH_take (i := 54) (oi := ?oi_322) (v := ?_) ?hi_322 (by kernel_rfl) ?hf_322 (by kernel_rfl) ?hQ_322 ?hy_322 (by assumption) ?_
    case hi_322 => simp only [List.getElem?_toArray, List.getElem?_cons_zero, List.getElem?_cons_succ]; try rfl
    case hf_322 => kernel_rfl
    case hQ_322 => exact fun _ _ _ h => h
    case hy_322 =>
      refine Or.inl ⟨by rfl, ?_⟩
      intro W hSw
      obtain ⟨q3x, q3y, q4x, q4y, q5x, q5y, q8x, q8y, q9x, q9y⟩ := hSw
      go_simp
      try with_reducible rfl
    try simp only [Act.put, List.setIfInBounds_toArray, List.set_cons_zero, List.set_cons_succ]
    refine wpAnyH_take (i := 55) (oi := ?oi_323) (v := ?_) ?hi_323 (by kernel_rfl) ?hf_323 (by kernel_rfl) ?hQ_323 ?hy_323 (by assumption) ?_
    case hi_323 => simp only [List.getElem?_toArray, List.getElem?_cons_zero, List.getElem?_cons_succ]; try rfl
    case hf_323 => kernel_rfl
    case hQ_323 => exact fun _ _ _ h => h
    case hy_323 =>
      refine Or.inl ⟨by rfl, ?_⟩
      intro W hSw
      obtain ⟨q3x, q3y, q4x, q4y, q5x, q5y, q8x, q8y, q9x, q9y⟩ := hSw
      go_simp
      try with_reducible rfl
    try simp only [Act.put, List.setIfInBounds_toArray, List.set_cons_zero, List.set_cons_succ]
    refine wpAnyH_done (by kernel_rfl) ?_ _
    clear hHeld
    go_wp2
    go_ret
    exact ⟨rfl, HB3.out⟩
  | true =>
  simp only [Bool.true_and]
  go_enter Try.func36, Try.ntmps36
  go_wp2_with fail
  refine wp_region_held_drew (S := (fun W => W.cell? ⟨gx, 3, none⟩ = some (.int .i64 tabx) ∧ W.cell? ⟨gy, 3, none⟩ = some (.int .i64 tabx) ∧ W.cell? ⟨gx, 4, none⟩ = some (.slice xA4 xn4 xc4) ∧ W.cell? ⟨gy, 4, none⟩ = some (.slice yA4 yn4 yc4) ∧ W.cell? ⟨gx, 5, none⟩ = some (.slice xA5 xn5 xc5) ∧ W.cell? ⟨gy, 5, none⟩ = some (.slice yA5 yn5 yc5) ∧ W.cell? ⟨gx, 8, none⟩ = some (.slice xA8 xn8 xc8) ∧ W.cell? ⟨gy, 8, none⟩ = some (.slice yA8 yn8 yc8) ∧ W.cell? ⟨gx, 9, none⟩ = some (.slice xA9 xn9 xc9) ∧ W.cell? ⟨gy, 9, none⟩ = some (.slice yA9 yn9 yc9))) (by kernel_rfl) ⟨HX.out.cell 3, HY.out.cell 3, HX.out.cell 4, HY.out.cell 4, HX.out.cell 5, HY.out.cell 5, HX.out.cell 8, HY.out.cell 8, HX.out.cell 9, HY.out.cell 9⟩ (fun hHeld => ?_)
  refine wpAnyH_take (i := 0) (oi := ?oi_324) (v := ?_) ?hi_324 (by kernel_rfl) ?hf_324 (by kernel_rfl) ?hQ_324 ?hy_324 (by assumption) ?_
  case hi_324 => simp only [List.getElem?_toArray, List.getElem?_cons_zero, List.getElem?_cons_succ]; try rfl
  case hf_324 => kernel_rfl
  case hQ_324 => exact fun _ _ _ h => h
  case hy_324 =>
    refine Or.inl ⟨by rfl, ?_⟩
    intro W hSw
    obtain ⟨q3x, q3y, q4x, q4y, q5x, q5y, q8x, q8y, q9x, q9y⟩ := hSw
    go_simp
    try with_reducible rfl
  try simp only [Act.put, List.setIfInBounds_toArray, List.set_cons_zero, List.set_cons_succ]
  refine wpAnyH_take (i := 1) (oi := ?oi_325) (v := ?_) ?hi_325 (by kernel_rfl) ?hf_325 (by kernel_rfl) ?hQ_325 ?hy_325 (by assumption) ?_
  case hi_325 => simp only [List.getElem?_toArray, List.getElem?_cons_zero, List.getElem?_cons_succ]; try rfl
  case hf_325 => kernel_rfl
  case hQ_325 => exact fun _ _ _ h => h
  case hy_325 =>
    refine Or.inl ⟨by rfl, ?_⟩
    intro W hSw
    obtain ⟨q3x, q3y, q4x, q4y, q5x, q5y, q8x, q8y, q9x, q9y⟩ := hSw
    go_simp
    try with_reducible rfl
  try simp only [Act.put, List.setIfInBounds_toArray, List.set_cons_zero, List.set_cons_succ]
  refine wpAnyH_take (i := 2) (oi := ?oi_326) (v := ?_) ?hi_326 (by kernel_rfl) ?hf_326 (by kernel_rfl) ?hQ_326 ?hy_326 (by assumption) ?_
  case hi_326 => simp only [List.getElem?_toArray, List.getElem?_cons_zero, List.getElem?_cons_succ]; try rfl
  case hf_326 => kernel_rfl
  case hQ_326 => exact fun _ _ _ h => h
  case hy_326 =>
    refine Or.inl ⟨by rfl, ?_⟩
    intro W hSw
    obtain ⟨q3x, q3y, q4x, q4y, q5x, q5y, q8x, q8y, q9x, q9y⟩ := hSw
    go_simp
    try with_reducible rfl
  try simp only [Act.put, List.setIfInBounds_toArray, List.set_cons_zero, List.set_cons_succ]
  refine wpAnyH_take (i := 3) (oi := ?oi_327) (v := ?_) ?hi_327 (by kernel_rfl) ?hf_327 (by kernel_rfl) ?hQ_327 ?hy_327 (by assumption) ?_
  case hi_327 => simp only [List.getElem?_toArray, List.getElem?_cons_zero, List.getElem?_cons_succ]; try rfl
  case hf_327 => kernel_rfl
  case hQ_327 => exact fun _ _ _ h => h
  case hy_327 =>
    refine Or.inl ⟨by rfl, ?_⟩
    intro W hSw
    obtain ⟨q3x, q3y, q4x, q4y, q5x, q5y, q8x, q8y, q9x, q9y⟩ := hSw
    go_simp
    try with_reducible rfl
  try simp only [Act.put, List.setIfInBounds_toArray, List.set_cons_zero, List.set_cons_succ]
  refine wpAnyH_take (i := 4) (oi := ?oi_328) (v := ?_) ?hi_328 (by kernel_rfl) ?hf_328 (by kernel_rfl) ?hQ_328 ?hy_328 (by assumption) ?_
  case hi_328 => simp only [List.getElem?_toArray, List.getElem?_cons_zero, List.getElem?_cons_succ]; try rfl
  case hf_328 => kernel_rfl
  case hQ_328 => exact fun _ _ _ h => h
  case hy_328 =>
    refine Or.inl ⟨by rfl, ?_⟩
    intro W hSw
    obtain ⟨q3x, q3y, q4x, q4y, q5x, q5y, q8x, q8y, q9x, q9y⟩ := hSw
    go_simp
    try with_reducible rfl
  try simp only [Act.put, List.setIfInBounds_toArray, List.set_cons_zero, List.set_cons_succ]
  refine wpAnyH_take (i := 5) (oi := ?oi_329) (v := ?_) ?hi_329 (by kernel_rfl) ?hf_329 (by kernel_rfl) ?hQ_329 ?hy_329 (by assumption) ?_
  case hi_329 => simp only [List.getElem?_toArray, List.getElem?_cons_zero, List.getElem?_cons_succ]; try rfl
  case hf_329 => kernel_rfl
  case hQ_329 => exact fun _ _ _ h => h
  case hy_329 =>
    refine Or.inl ⟨by rfl, ?_⟩
    intro W hSw
    obtain ⟨q3x, q3y, q4x, q4y, q5x, q5y, q8x, q8y, q9x, q9y⟩ := hSw
    go_simp
    try with_reducible rfl
  try simp only [Act.put, List.setIfInBounds_toArray, List.set_cons_zero, List.set_cons_succ]
  refine wpAnyH_take (i := 6) (oi := ?oi_330) (v := ?_) ?hi_330 (by kernel_rfl) ?hf_330 (by kernel_rfl) ?hQ_330 ?hy_330 (by assumption) ?_
  case hi_330 => simp only [List.getElem?_toArray, List.getElem?_cons_zero, List.getElem?_cons_succ]; try rfl
  case hf_330 => kernel_rfl
  case hQ_330 => exact fun _ _ _ h => h
  case hy_330 =>
    refine Or.inl ⟨by rfl, ?_⟩
    intro W hSw
    obtain ⟨q3x, q3y, q4x, q4y, q5x, q5y, q8x, q8y, q9x, q9y⟩ := hSw
    go_simp
    try with_reducible rfl
  try simp only [Act.put, List.setIfInBounds_toArray, List.set_cons_zero, List.set_cons_succ]
  refine wpAnyH_take (i := 7) (oi := ?oi_331) (v := ?_) ?hi_331 (by kernel_rfl) ?hf_331 (by kernel_rfl) ?hQ_331 ?hy_331 (by assumption) ?_
  case hi_331 => simp only [List.getElem?_toArray, List.getElem?_cons_zero, List.getElem?_cons_succ]; try rfl
  case hf_331 => kernel_rfl
  case hQ_331 => exact fun _ _ _ h => h
  case hy_331 =>
    refine Or.inl ⟨by rfl, ?_⟩
    intro W hSw
    obtain ⟨q3x, q3y, q4x, q4y, q5x, q5y, q8x, q8y, q9x, q9y⟩ := hSw
    go_simp
    try with_reducible rfl
  try simp only [Act.put, List.setIfInBounds_toArray, List.set_cons_zero, List.set_cons_succ]
  refine wpAnyH_take (i := 8) (oi := ?oi_332) (v := ?_) ?hi_332 (by kernel_rfl) ?hf_332 (by kernel_rfl) ?hQ_332 ?hy_332 (by assumption) ?_
  case hi_332 => simp only [List.getElem?_toArray, List.getElem?_cons_zero, List.getElem?_cons_succ]; try rfl
  case hf_332 => kernel_rfl
  case hQ_332 => exact fun _ _ _ h => h
  case hy_332 =>
    refine Or.inl ⟨by rfl, ?_⟩
    intro W hSw
    obtain ⟨q3x, q3y, q4x, q4y, q5x, q5y, q8x, q8y, q9x, q9y⟩ := hSw
    go_simp
    try with_reducible rfl
  try simp only [Act.put, List.setIfInBounds_toArray, List.set_cons_zero, List.set_cons_succ]
  refine wpAnyH_take (i := 9) (oi := ?oi_333) (v := ?_) ?hi_333 (by kernel_rfl) ?hf_333 (by kernel_rfl) ?hQ_333 ?hy_333 (by assumption) ?_
  case hi_333 => simp only [List.getElem?_toArray, List.getElem?_cons_zero, List.getElem?_cons_succ]; try rfl
  case hf_333 => kernel_rfl
  case hQ_333 => exact fun _ _ _ h => h
  case hy_333 =>
    refine Or.inl ⟨by rfl, ?_⟩
    intro W hSw
    obtain ⟨q3x, q3y, q4x, q4y, q5x, q5y, q8x, q8y, q9x, q9y⟩ := hSw
    go_simp
    try with_reducible rfl
  try simp only [Act.put, List.setIfInBounds_toArray, List.set_cons_zero, List.set_cons_succ]
  refine wpAnyH_take (i := 10) (oi := ?oi_334) (v := ?_) ?hi_334 (by kernel_rfl) ?hf_334 (by kernel_rfl) ?hQ_334 ?hy_334 (by assumption) ?_
  case hi_334 => simp only [List.getElem?_toArray, List.getElem?_cons_zero, List.getElem?_cons_succ]; try rfl
  case hf_334 => kernel_rfl
  case hQ_334 => exact fun _ _ _ h => h
  case hy_334 =>
    refine Or.inl ⟨by rfl, ?_⟩
    intro W hSw
    obtain ⟨q3x, q3y, q4x, q4y, q5x, q5y, q8x, q8y, q9x, q9y⟩ := hSw
    go_simp
    try with_reducible rfl
  try simp only [Act.put, List.setIfInBounds_toArray, List.set_cons_zero, List.set_cons_succ]
  refine wpAnyH_take (i := 11) (oi := ?oi_335) (v := ?_) ?hi_335 (by kernel_rfl) ?hf_335 (by kernel_rfl) ?hQ_335 ?hy_335 (by assumption) ?_
  case hi_335 => simp only [List.getElem?_toArray, List.getElem?_cons_zero, List.getElem?_cons_succ]; try rfl
  case hf_335 => kernel_rfl
  case hQ_335 => exact fun _ _ _ h => h
  case hy_335 =>
    refine Or.inl ⟨by rfl, ?_⟩
    intro W hSw
    obtain ⟨q3x, q3y, q4x, q4y, q5x, q5y, q8x, q8y, q9x, q9y⟩ := hSw
    go_simp
    try with_reducible rfl
  try simp only [Act.put, List.setIfInBounds_toArray, List.set_cons_zero, List.set_cons_succ]
  refine wpAnyH_take (i := 12) (oi := ?oi_336) (v := ?_) ?hi_336 (by kernel_rfl) ?hf_336 (by kernel_rfl) ?hQ_336 ?hy_336 (by assumption) ?_
  case hi_336 => simp only [List.getElem?_toArray, List.getElem?_cons_zero, List.getElem?_cons_succ]; try rfl
  case hf_336 => kernel_rfl
  case hQ_336 => exact fun _ _ _ h => h
  case hy_336 =>
    refine Or.inl ⟨by rfl, ?_⟩
    intro W hSw
    obtain ⟨q3x, q3y, q4x, q4y, q5x, q5y, q8x, q8y, q9x, q9y⟩ := hSw
    go_simp
    try with_reducible rfl
  try simp only [Act.put, List.setIfInBounds_toArray, List.set_cons_zero, List.set_cons_succ]
  refine wpAnyH_take (i := 13) (oi := ?oi_337) (v := ?_) ?hi_337 (by kernel_rfl) ?hf_337 (by kernel_rfl) ?hQ_337 ?hy_337 (by assumption) ?_
  case hi_337 => simp only [List.getElem?_toArray, List.getElem?_cons_zero, List.getElem?_cons_succ]; try rfl
  case hf_337 => kernel_rfl
  case hQ_337 => exact fun _ _ _ h => h
  case hy_337 =>
    refine Or.inl ⟨by rfl, ?_⟩
    intro W hSw
    obtain ⟨q3x, q3y, q4x, q4y, q5x, q5y, q8x, q8y, q9x, q9y⟩ := hSw
    go_simp
    try with_reducible rfl
  try simp only [Act.put, List.setIfInBounds_toArray, List.set_cons_zero, List.set_cons_succ]
  refine wpAnyH_take (i := 14) (oi := ?oi_338) (v := ?_) ?hi_338 (by kernel_rfl) ?hf_338 (by kernel_rfl) ?hQ_338 ?hy_338 (by assumption) ?_
  case hi_338 => simp only [List.getElem?_toArray, List.getElem?_cons_zero, List.getElem?_cons_succ]; try rfl
  case hf_338 => kernel_rfl
  case hQ_338 => exact fun _ _ _ h => h
  case hy_338 =>
    refine Or.inl ⟨by rfl, ?_⟩
    intro W hSw
    obtain ⟨q3x, q3y, q4x, q4y, q5x, q5y, q8x, q8y, q9x, q9y⟩ := hSw
    go_simp
    try with_reducible rfl
  try simp only [Act.put, List.setIfInBounds_toArray, List.set_cons_zero, List.set_cons_succ]
  refine wpAnyH_take (i := 15) (oi := ?oi_339) (v := ?_) ?hi_339 (by kernel_rfl) ?hf_339 (by kernel_rfl) ?hQ_339 ?hy_339 (by assumption) ?_
  case hi_339 => simp only [List.getElem?_toArray, List.getElem?_cons_zero, List.getElem?_cons_succ]; try rfl
  case hf_339 => kernel_rfl
  case hQ_339 => exact fun _ _ _ h => h
  case hy_339 =>
    refine Or.inl ⟨by rfl, ?_⟩
    intro W hSw
    obtain ⟨q3x, q3y, q4x, q4y, q5x, q5y, q8x, q8y, q9x, q9y⟩ := hSw
    go_simp
    try with_reducible rfl
  try simp only [Act.put, List.setIfInBounds_toArray, List.set_cons_zero, List.set_cons_succ]
  refine wpAnyH_take (i := 16) (oi := ?oi_340) (v := ?_) ?hi_340 (by kernel_rfl) ?hf_340 (by kernel_rfl) ?hQ_340 ?hy_340 (by assumption) ?_
  case hi_340 => simp only [List.getElem?_toArray, List.getElem?_cons_zero, List.getElem?_cons_succ]; try rfl
  case hf_340 => kernel_rfl
  case hQ_340 => exact fun _ _ _ h => h
  case hy_340 =>
    refine Or.inl ⟨by rfl, ?_⟩
    intro W hSw
    obtain ⟨q3x, q3y, q4x, q4y, q5x, q5y, q8x, q8y, q9x, q9y⟩ := hSw
    go_simp
    try with_reducible rfl
  try simp only [Act.put, List.setIfInBounds_toArray, List.set_cons_zero, List.set_cons_succ]
  refine wpAnyH_take (i := 17) (oi := ?oi_341) (v := ?_) ?hi_341 (by kernel_rfl) ?hf_341 (by kernel_rfl) ?hQ_341 ?hy_341 (by assumption) ?_
  case hi_341 => simp only [List.getElem?_toArray, List.getElem?_cons_zero, List.getElem?_cons_succ]; try rfl
  case hf_341 => kernel_rfl
  case hQ_341 => exact fun _ _ _ h => h
  case hy_341 =>
    refine Or.inl ⟨by rfl, ?_⟩
    intro W hSw
    obtain ⟨q3x, q3y, q4x, q4y, q5x, q5y, q8x, q8y, q9x, q9y⟩ := hSw
    go_simp
    try with_reducible rfl
  try simp only [Act.put, List.setIfInBounds_toArray, List.set_cons_zero, List.set_cons_succ]
  refine wpAnyH_ready (rs := [18]) (by kernel_rfl) (by simp) ?_
  refine AllReadyH.cons (o := ?oi_342) ?hi_342 (fun K hK => ?_) AllReadyH.nil
  case hi_342 => simp only [List.getElem?_toArray, List.getElem?_cons_zero, List.getElem?_cons_succ]; try rfl
  go_simp
  (go_at_call 58
   with_reducible refine (E0.out _ HD.out).mono ?_
   rintro e w1 ⟨rfl, hb1⟩
   have HB1 : Hid (Below w.heap.size w w1) := Lib.hid (HD.out.trans (hb1.mono HD.out.size))
   clear hb1)
  refine hK.out _ _ ⟨(HX.out.below HB1.out HX.out.lt).cell 3, (HY.out.below HB1.out HY.out.lt).cell 3, (HX.out.below HB1.out HX.out.lt).cell 4, (HY.out.below HB1.out HY.out.lt).cell 4, (HX.out.below HB1.out HX.out.lt).cell 5, (HY.out.below HB1.out HY.out.lt).cell 5, (HX.out.below HB1.out HX.out.lt).cell 8, (HY.out.below HB1.out HY.out.lt).cell 8, (HX.out.below HB1.out HX.out.lt).cell 9, (HY.out.below HB1.out HY.out.lt).cell 9⟩ (fun hHeld => ?_)
  clear hK K
  try simp only [Act.put, List.setIfInBounds_toArray, List.set_cons_zero, List.set_cons_succ]
  refine wpAnyH_take (i := 19) (oi := ?oi_343) (v := ?_) ?hi_343 (by kernel_rfl) ?hf_343 (by kernel_rfl) ?hQ_343 ?hy_343 (by assumption) ?_
  case hi_343 => simp only [List.getElem?_toArray, List.getElem?_cons_zero, List.getElem?_cons_succ]; try rfl
  case hf_343 => kernel_rfl
  case hQ_343 => exact fun _ _ _ h => h
  case hy_343 =>
    refine Or.inl ⟨by rfl, ?_⟩
    intro W hSw
    obtain ⟨q3x, q3y, q4x, q4y, q5x, q5y, q8x, q8y, q9x, q9y⟩ := hSw
    go_simp
    try with_reducible rfl
  try simp only [Act.put, List.setIfInBounds_toArray, List.set_cons_zero, List.set_cons_succ]
  refine wpAnyH_take (i := 20) (oi := ?oi_344) (v := ?_) ?hi_344 (by kernel_rfl) ?hf_344 (by kernel_rfl) ?hQ_344 ?hy_344 (by assumption) ?_
  case hi_344 => simp only [List.getElem?_toArray, List.getElem?_cons_zero, List.getElem?_cons_succ]; try rfl
  case hf_344 => kernel_rfl
  case hQ_344 => exact fun _ _ _ h => h
  case hy_344 =>
    refine Or.inl ⟨by rfl, ?_⟩
    intro W hSw
    obtain ⟨q3x, q3y, q4x, q4y, q5x, q5y, q8x, q8y, q9x, q9y⟩ := hSw
    go_simp
    try with_reducible rfl
  try simp only [Act.put, List.setIfInBounds_toArray, List.set_cons_zero, List.set_cons_succ]
  refine wpAnyH_take (i := 21) (oi := ?oi_345) (v := ?_) ?hi_345 (by kernel_rfl) ?hf_345 (by kernel_rfl) ?hQ_345 ?hy_345 (by assumption) ?_
  case hi_345 => simp only [List.getElem?_toArray, List.getElem?_cons_zero, List.getElem?_cons_succ]; try rfl
  case hf_345 => kernel_rfl
  case hQ_345 => exact fun _ _ _ h => h
  case hy_345 =>
    refine Or.inl ⟨by rfl, ?_⟩
    intro W hSw
    obtain ⟨q3x, q3y, q4x, q4y, q5x, q5y, q8x, q8y, q9x, q9y⟩ := hSw
    go_simp
    try with_reducible rfl
  try simp only [Act.put, List.setIfInBounds_toArray, List.set_cons_zero, List.set_cons_succ]
  refine wpAnyH_take (i := 22) (oi := ?oi_346) (v := ?_) ?hi_346 (by kernel_rfl) ?hf_346 (by kernel_rfl) ?hQ_346 ?hy_346 (by assumption) ?_
  case hi_346 => simp only [List.getElem?_toArray, List.getElem?_cons_zero, List.getElem?_cons_succ]; try rfl
  case hf_346 => kernel_rfl
  case hQ_346 => exact fun _ _ _ h => h
  case hy_346 =>
    refine Or.inl ⟨by rfl, ?_⟩
    intro W hSw
    obtain ⟨q3x, q3y, q4x, q4y, q5x, q5y, q8x, q8y, q9x, q9y⟩ := hSw
    go_simp
    try with_reducible rfl
  try simp only [Act.put, List.setIfInBounds_toArray, List.set_cons_zero, List.set_cons_succ]
  refine wpAnyH_take (i := 23) (oi := ?oi_347) (v := ?_) ?hi_347 (by kernel_rfl) ?hf_347 (by kernel_rfl) ?hQ_347 ?hy_347 (by assumption) ?_
  case hi_347 => simp only [List.getElem?_toArray, List.getElem?_cons_zero, List.getElem?_cons_succ]; try rfl
  case hf_347 => kernel_rfl
  case hQ_347 => exact fun _ _ _ h => h
  case hy_347 =>
    refine Or.inl ⟨by rfl, ?_⟩
    intro W hSw
    obtain ⟨q3x, q3y, q4x, q4y, q5x, q5y, q8x, q8y, q9x, q9y⟩ := hSw
    go_simp
    try with_reducible rfl
  try simp only [Act.put, List.setIfInBounds_toArray, List.set_cons_zero, List.set_cons_succ]
  refine wpAnyH_take (i := 24) (oi := ?oi_348) (v := ?_) ?hi_348 (by kernel_rfl) ?hf_348 (by kernel_rfl) ?hQ_348 ?hy_348 (by assumption) ?_
  case hi_348 => simp only [List.getElem?_toArray, List.getElem?_cons_zero, List.getElem?_cons_succ]; try rfl
  case hf_348 => kernel_rfl
  case hQ_348 => exact fun _ _ _ h => h
  case hy_348 =>
    refine Or.inl ⟨by rfl, ?_⟩
    intro W hSw
    obtain ⟨q3x, q3y, q4x, q4y, q5x, q5y, q8x, q8y, q9x, q9y⟩ := hSw
    go_simp
    try with_reducible rfl
  try simp only [Act.put, List.setIfInBounds_toArray, List.set_cons_zero, List.set_cons_succ]
  refine wpAnyH_take (i := 25) (oi := ?oi_349) (v := ?_) ?hi_349 (by kernel_rfl) ?hf_349 (by kernel_rfl) ?hQ_349 ?hy_349 (by assumption) ?_
  case hi_349 => simp only [List.getElem?_toArray, List.getElem?_cons_zero, List.getElem?_cons_succ]; try rfl
  case hf_349 => kernel_rfl
  case hQ_349 => exact fun _ _ _ h => h
  case hy_349 =>
    refine Or.inl ⟨by rfl, ?_⟩
    intro W hSw
    obtain ⟨q3x, q3y, q4x, q4y, q5x, q5y, q8x, q8y, q9x, q9y⟩ := hSw
    go_simp
    try with_reducible rfl
  try simp only [Act.put, List.setIfInBounds_toArray, List.set_cons_zero, List.set_cons_succ]
  refine wpAnyH_take (i := 26) (oi := ?oi_350) (v := ?_) ?hi_350 (by kernel_rfl) ?hf_350 (by kernel_rfl) ?hQ_350 ?hy_350 (by assumption) ?_
  case hi_350 => simp only [List.getElem?_toArray, List.getElem?_cons_zero, List.getElem?_cons_succ]; try rfl
  case hf_350 => kernel_rfl
  case hQ_350 => exact fun _ _ _ h => h
  case hy_350 =>
    refine Or.inl ⟨by rfl, ?_⟩
    intro W hSw
    obtain ⟨q3x, q3y, q4x, q4y, q5x, q5y, q8x, q8y, q9x, q9y⟩ := hSw
    go_simp
    try with_reducible rfl
  try simp only [Act.put, List.setIfInBounds_toArray, List.set_cons_zero, List.set_cons_succ]
  refine wpAnyH_take (i := 27) (oi := ?oi_351) (v := ?_) ?hi_351 (by kernel_rfl) ?hf_351 (by kernel_rfl) ?hQ_351 ?hy_351 (by assumption) ?_
  case hi_351 => simp only [List.getElem?_toArray, List.getElem?_cons_zero, List.getElem?_cons_succ]; try rfl
  case hf_351 => kernel_rfl
  case hQ_351 => exact fun _ _ _ h => h
  case hy_351 =>
    refine Or.inl ⟨by rfl, ?_⟩
    intro W hSw
    obtain ⟨q3x, q3y, q4x, q4y, q5x, q5y, q8x, q8y, q9x, q9y⟩ := hSw
    go_simp
    try with_reducible rfl
  try simp only [Act.put, List.setIfInBounds_toArray, List.set_cons_zero, List.set_cons_succ]
  refine wpAnyH_take (i := 28) (oi := ?oi_352) (v := ?_) ?hi_352 (by kernel_rfl) ?hf_352 (by kernel_rfl) ?hQ_352 ?hy_352 (by assumption) ?_
  case hi_352 => simp only [List.getElem?_toArray, List.getElem?_cons_zero, List.getElem?_cons_succ]; try rfl
  case hf_352 => kernel_rfl
  case hQ_352 => exact fun _ _ _ h => h
  case hy_352 =>
    refine Or.inl ⟨by rfl, ?_⟩
    intro W hSw
    obtain ⟨q3x, q3y, q4x, q4y, q5x, q5y, q8x, q8y, q9x, q9y⟩ := hSw
    go_simp
    try with_reducible rfl
  try simp only [Act.put, List.setIfInBounds_toArray, List.set_cons_zero, List.set_cons_succ]
  refine wpAnyH_ready (rs := [29]) (by kernel_rfl) (by simp) ?_
  refine AllReadyH.cons (o := ?oi_353) ?hi_353 (fun K hK => ?_) AllReadyH.nil
  case hi_353 => simp only [List.getElem?_toArray, List.getElem?_cons_zero, List.getElem?_cons_succ]; try rfl
  go_simp
  (go_at_call 59
   with_reducible refine (E1.out _ HB1.out).mono ?_
   rintro e w2 ⟨rfl, hb2⟩
   have HB2 : Hid (Below w.heap.size w w2) := Lib.hid (HB1.out.trans (hb2.mono HB1.out.size))
   clear hb2)
  refine hK.out _ _ ⟨(HX.out.below HB2.out HX.out.lt).cell 3, (HY.out.below HB2.out HY.out.lt).cell 3, (HX.out.below HB2.out HX.out.lt).cell 4, (HY.out.below HB2.out HY.out.lt).cell 4, (HX.out.below HB2.out HX.out.lt).cell 5, (HY.out.below HB2.out HY.out.lt).cell 5, (HX.out.below HB2.out HX.out.lt).cell 8, (HY.out.below HB2.out HY.out.lt).cell 8, (HX.out.below HB2.out HX.out.lt).cell 9, (HY.out.below HB2.out HY.out.lt).cell 9⟩ (fun hHeld => ?_)
  clear hK K
  try simp only [Act.put, List.setIfInBounds_toArray, List.set_cons_zero, List.set_cons_succ]
  refine wpAnyH_take (i := 30) (oi := ?oi_354) (v := ?_) ?hi_354 (by kernel_rfl) ?hf_354 (by kernel_rfl) ?hQ_354 ?hy_354 (by assumption) ?_
  case hi_354 => simp only [List.getElem?_toArray, List.getElem?_cons_zero, List.getElem?_cons_succ]; try rfl
  case hf_354 => kernel_rfl
  case hQ_354 => exact fun _ _ _ h => h
  case hy_354 =>
    refine Or.inl ⟨by rfl, ?_⟩
    intro W hSw
    obtain ⟨q3x, q3y, q4x, q4y, q5x, q5y, q8x, q8y, q9x, q9y⟩ := hSw
    go_simp
    try with_reducible rfl
  try simp only [Act.put, List.setIfInBounds_toArray, List.set_cons_zero, List.set_cons_succ]
  refine wpAnyH_take (i := 31) (oi := ?oi_355) (v := ?_) ?hi_355 (by kernel_rfl) ?hf_355 (by kernel_rfl) ?hQ_355 ?hy_355 (by assumption) ?_
  case hi_355 => simp only [List.getElem?_toArray, List.getElem?_cons_zero, List.getElem?_cons_succ]; try rfl
  case hf_355 => kernel_rfl
  case hQ_355 => exact fun _ _ _ h => h
  case hy_355 =>
    refine Or.inl ⟨by rfl, ?_⟩
    intro W hSw
    obtain ⟨q3x, q3y, q4x, q4y, q5x, q5y, q8x, q8y, q9x, q9y⟩ := hSw
    go_simp
    try with_reducible rfl
  try simp only [Act.put, List.setIfInBounds_toArray, List.set_cons_zero, List.set_cons_succ]
  refine wpAnyH_take (i := 32) (oi := ?oi_356) (v := ?_) ?hi_356 (by kernel_rfl) ?hf_356 (by kernel_rfl) ?hQ_356 ?hy_356 (by assumption) ?_
  case hi_356 => simp only [List.getElem?_toArray, List.getElem?_cons_zero, List.getElem?_cons_succ]; try rfl
  case hf_356 => kernel_rfl
  case hQ_356 => exact fun _ _ _ h => h
  case hy_356 =>
    refine Or.inl ⟨by rfl, ?_⟩
    intro W hSw
    obtain ⟨q3x, q3y, q4x, q4y, q5x, q5y, q8x, q8y, q9x, q9y⟩ := hSw
    go_simp
    try with_reducible rfl
  try simp only [Act.put, List.setIfInBounds_toArray, List.set_cons_zero, List.set_cons_succ]
  refine wpAnyH_take (i := 33) (oi := ?oi_357) (v := ?_) ?hi_357 (by kernel_rfl) ?hf_357 (by kernel_rfl) ?hQ_357 ?hy_357 (by assumption) ?_
  case hi_357 => simp only [List.getElem?_toArray, List.getElem?_cons_zero, List.getElem?_cons_succ]; try rfl
  case hf_357 => kernel_rfl
  case hQ_357 => exact fun _ _ _ h => h
  case hy_357 =>
    refine Or.inl ⟨by rfl, ?_⟩
    intro W hSw
    obtain ⟨q3x, q3y, q4x, q4y, q5x, q5y, q8x, q8y, q9x, q9y⟩ := hSw
    go_simp
    try with_reducible rfl
  try simp only [Act.put, List.setIfInBounds_toArray, List.set_cons_zero, List.set_cons_succ]
  refine wpAnyH_take (i := 34) (oi := ?oi_358) (v := ?_) ?hi_358 (by kernel_rfl) ?hf_358 (by kernel_rfl) ?hQ_358 ?hy_358 (by assumption) ?_
  case hi_358 => simp only [List.getElem?_toArray, List.getElem?_cons_zero, List.getElem?_cons_succ]; try rfl
  case hf_358 => kernel_rfl
  case hQ_358 => exact fun _ _ _ h => h
  case hy_358 =>
    refine Or.inl ⟨by rfl, ?_⟩
    intro W hSw
    obtain ⟨q3x, q3y, q4x, q4y, q5x, q5y, q8x, q8y, q9x, q9y⟩ := hSw
    go_simp
    try with_reducible rfl
  try simp only [Act.put, List.setIfInBounds_toArray, List.set_cons_zero, List.set_cons_succ]
  refine wpAnyH_take (i := 35) (oi := ?oi_359) (v := ?_) ?hi_359 (by kernel_rfl) ?hf_359 (by kernel_rfl) ?hQ_359 ?hy_359 (by assumption) ?_
  case hi_359 => simp only [List.getElem?_toArray, List.getElem?_cons_zero, List.getElem?_cons_succ]; try rfl
  case hf_359 => kernel_rfl
  case hQ_359 => exact fun _ _ _ h => h
  case hy_359 =>
    refine Or.inl ⟨by rfl, ?_⟩
    intro W hSw
    obtain ⟨q3x, q3y, q4x, q4y, q5x, q5y, q8x, q8y, q9x, q9y⟩ := hSw
    go_simp
    try with_reducible rfl
  try simp only [Act.put, List.setIfInBounds_toArray, List.set_cons_zero, List.set_cons_succ]
  refine wpAnyH_take (i := 36) (oi := ?oi_360) (v := ?_) ?hi_360 (by kernel_rfl) ?hf_360 (by kernel_rfl) ?hQ_360 ?hy_360 (by assumption) ?_
  case hi_360 => simp only [List.getElem?_toArray, List.getElem?_cons_zero, List.getElem?_cons_succ]; try rfl
  case hf_360 => kernel_rfl
  case hQ_360 => exact fun _ _ _ h => h
  case hy_360 =>
    refine Or.inl ⟨by rfl, ?_⟩
    intro W hSw
    obtain ⟨q3x, q3y, q4x, q4y, q5x, q5y, q8x, q8y, q9x, q9y⟩ := hSw
    go_simp
    try with_reducible rfl
  try simp only [Act.put, List.setIfInBounds_toArray, List.set_cons_zero, List.set_cons_succ]
  refine wpAnyH_take (i := 37) (oi := ?oi_361) (v := ?_) ?hi_361 (by kernel_rfl) ?hf_361 (by kernel_rfl) ?hQ_361 ?hy_361 (by assumption) ?_
  case hi_361 => simp only [List.getElem?_toArray, List.getElem?_cons_zero, List.getElem?_cons_succ]; try rfl
  case hf_361 => kernel_rfl
  case hQ_361 => exact fun _ _ _ h => h
  case hy_361 =>
    refine Or.inl ⟨by rfl, ?_⟩
    intro W hSw
    obtain ⟨q3x, q3y, q4x, q4y, q5x, q5y, q8x, q8y, q9x, q9y⟩ := hSw
    go_simp
    try with_reducible rfl
  try simp only [Act.put, List.setIfInBounds_toArray, List.set_cons_zero, List.set_cons_succ]
  refine wpAnyH_take (i := 38) (oi := ?oi_362) (v := ?_) ?hi_362 (by kernel_rfl) ?hf_362 (by kernel_rfl) ?hQ_362 ?hy_362 (by assumption) ?_
  case hi_362 => simp only [List.getElem?_toArray, List.getElem?_cons_zero, List.getElem?_cons_succ]; try rfl
  case hf_362 => kernel_rfl
  case hQ_362 => exact fun _ _ _ h => h
  case hy_362 =>
    refine Or.inl ⟨by rfl, ?_⟩
    intro W hSw
    obtain ⟨q3x, q3y, q4x, q4y, q5x, q5y, q8x, q8y, q9x, q9y⟩ := hSw
    go_simp
    try with_reducible rfl
  try simp only [Act.put, List.setIfInBounds_toArray, List.set_cons_zero, List.set_cons_succ]
  refine wpAnyH_take (i := 39) (oi := ?oi_363) (v := ?_) ?hi_363 (by kernel_rfl) ?hf_363 (by kernel_rfl) ?hQ_363 ?hy_363 (by assumption) ?_
  case hi_363 => simp only [List.getElem?_toArray, List.getElem?_cons_zero, List.getElem?_cons_succ]; try rfl
  case hf_363 => kernel_rfl
  case hQ_363 => exact fun _ _ _ h => h
  case hy_363 =>
    refine Or.inl ⟨by rfl, ?_⟩
    intro W hSw
    obtain ⟨q3x, q3y, q4x, q4y, q5x, q5y, q8x, q8y, q9x, q9y⟩ := hSw
    go_simp
    try with_reducible rfl
  try simp only [Act.put, List.setIfInBounds_toArray, List.set_cons_zero, List.set_cons_succ]
  refine wpAnyH_take (i := 40) (oi := ?oi_364) (v := ?_) ?hi_364 (by kernel_rfl) ?hf_364 (by kernel_rfl) ?hQ_364 ?hy_364 (by assumption) ?_
  case hi_364 => simp only [List.getElem?_toArray, List.getElem?_cons_zero, List.getElem?_cons_succ]; try rfl
  case hf_364 => kernel_rfl
  case hQ_364 => exact fun _ _ _ h => h
  case hy_364 =>
    refine Or.inl ⟨by rfl, ?_⟩
    intro W hSw
    obtain ⟨q3x, q3y, q4x, q4y, q5x, q5y, q8x, q8y, q9x, q9y⟩ := hSw
    go_simp
    try with_reducible rfl
  try simp only [Act.put, List.setIfInBounds_toArray, List.set_cons_zero, List.set_cons_succ]
  refine wpAnyH_ready (rs := [41]) (by kernel_rfl) (by simp) ?_
  refine AllReadyH.cons (o := ?oi_365) ?hi_365 (fun K hK => ?_) AllReadyH.nil
  case hi_365 => simp only [List.getElem?_toArray, List.getElem?_cons_zero, List.getElem?_cons_succ]; try rfl
  go_simp
  (go_at_call 60
   with_reducible refine (E2.out _ HB2.out).mono ?_
   rintro e w3 ⟨rfl, hb3⟩
   have HB3 : Hid (Below w.heap.size w w3) := Lib.hid (HB2.out.trans (hb3.mono HB2.out.size))
   clear hb3)
  refine hK.out _ _ ⟨(HX.out.below HB3.out HX.out.lt).cell 3, (HY.out.below HB3.out HY.out.lt).cell 3, (HX.out.below HB3.out HX.out.lt).cell 4, (HY.out.below HB3.out HY.out.lt).cell 4, (HX.out.below HB3.out HX.out.lt).cell 5, (HY.out.below HB3.out HY.out.lt).cell 5, (HX.out.below HB3.out HX.out.lt).cell 8, (HY.out.below HB3.out HY.out.lt).cell 8, (HX.out.below HB3.out HX.out.lt).cell 9, (HY.out.below HB3.out HY.out.lt).cell 9⟩ (fun hHeld => ?_)
  clear hK K
  try simp only [Act.put, List.setIfInBounds_toArray, List.set_cons_zero, List.set_cons_succ]
  refine wpAnyH_take (i := 42) (oi := ?oi_366) (v := ?_) ?hi_366 (by kernel_rfl) ?hf_366 (by kernel_rfl) ?hQ_366 ?hy_366 (by assumption) ?_
  case hi_366 => simp only [List.getElem?_toArray, List.getElem?_cons_zero, List.getElem?_cons_succ]; try rfl
  case hf_366 => kernel_rfl
  case hQ_366 => exact fun _ _ _ h => h
  case hy_366 =>
    refine Or.inl ⟨by rfl, ?_⟩
    intro W hSw
    obtain ⟨q3x, q3y, q4x, q4y, q5x, q5y, q8x, q8y, q9x, q9y⟩ := hSw
    go_simp
    try with_reducible rfl
  try simp only [Act.put, List.setIfInBounds_toArray, List.set_cons_zero, List.set_cons_succ]
  refine wpAnyH_take (i := 43) (oi := ?oi_367) (v := ?_) ?hi_367 (by kernel_rfl) ?hf_367 (by kernel_rfl) ?hQ_367 ?hy_367 (by assumption) ?_
  case hi_367 => simp only [List.getElem?_toArray, List.getElem?_cons_zero, List.getElem?_cons_succ]; try rfl
  case hf_367 => kernel_rfl
  case hQ_367 => exact fun _ _ _ h => h
  case hy_367 =>
    refine Or.inl ⟨by rfl, ?_⟩
    intro W hSw
    obtain ⟨q3x, q3y, q4x, q4y, q5x, q5y, q8x, q8y, q9x, q9y⟩ := hSw
    go_simp
    try with_reducible rfl
  try simp only [Act.put, List.setIfInBounds_toArray, List.set_cons_zero, List.set_cons_succ]
  refine wpAnyH_take (i := 44) (oi := ?oi_368) (v := ?_) ?hi_368 (by kernel_rfl) ?hf_368 (by kernel_rfl) ?hQ_368 ?hy_368 (by assumption) ?_
  case hi_368 => simp only [List.getElem?_toArray, List.getElem?_cons_zero, List.getElem?_cons_succ]; try rfl
  case hf_368 => kernel_rfl
  case hQ_368 => exact fun _ _ _ h => h
  case hy_368 =>
    refine Or.inl ⟨by rfl, ?_⟩
    intro W hSw
    obtain ⟨q3x, q3y, q4x, q4y, q5x, q5y, q8x, q8y, q9x, q9y⟩ := hSw
    go_simp
    try with_reducible rfl
  try simp only [Act.put, List.setIfInBounds_toArray, List.set_cons_zero, List.set_cons_succ]
  refine wpAnyH_take (i := 45) (oi := ?oi_369) (v := ?_) ?hi_369 (by kernel_rfl) ?hf_369 (by kernel_rfl) ?hQ_369 ?hy_369 (by assumption) ?_
  case hi_369 => simp only [List.getElem?_toArray, List.getElem?_cons_zero, List.getElem?_cons_succ]; try rfl
  case hf_369 => kernel_rfl
  case hQ_369 => exact fun _ _ _ h => h
  case hy_369 =>
    refine Or.inl ⟨by rfl, ?_⟩
    intro W hSw
    obtain ⟨q3x, q3y, q4x, q4y, q5x, q5y, q8x, q8y, q9x, q9y⟩ := hSw
    go_simp
    try with_reducible rfl
  try simp only [Act.put, List.setIfInBounds_toArray, List.set_cons_zero, List.set_cons_succ]
  refine wpAnyH_take (i := 46) (oi := ?oi_370) (v := ?_) ?hi_370 (by kernel_rfl) ?hf_370 (by kernel_rfl) ?hQ_370 ?hy_370 (by assumption) ?_
  case hi_370 => simp only [List.getElem?_toArray, List.getElem?_cons_zero, List.getElem?_cons_succ]; try rfl
  case hf_370 => kernel_rfl
  case hQ_370 => exact fun _ _ _ h => h
  case hy_370 =>
    refine Or.inl ⟨by rfl, ?_⟩
    intro W hSw
    obtain ⟨q3x, q3y, q4x, q4y, q5x, q5y, q8x, q8y, q9x, q9y⟩ := hSw
    go_simp
    try with_reducible rfl
  try simp only [Act.put, List.setIfInBounds_toArray, List.set_cons_zero, List.set_cons_succ]
  refine wpAnyH_take (i := 47) (oi := ?oi_371) (v := ?_) ?hi_371 (by kernel_rfl) ?hf_371 (by kernel_rfl) ?hQ_371 ?hy_371 (by assumption) ?_
  case hi_371 => simp only [List.getElem?_toArray, List.getElem?_cons_zero, List.getElem?_cons_succ]; try rfl
  case hf_371 => kernel_rfl
  case hQ_371 => exact fun _ _ _ h => h
  case hy_371 =>
    refine Or.inl ⟨by rfl, ?_⟩
    intro W hSw
    obtain ⟨q3x, q3y, q4x, q4y, q5x, q5y, q8x, q8y, q9x, q9y⟩ := hSw
    go_simp
    try with_reducible rfl
  try simp only [Act.put, List.setIfInBounds_toArray, List.set_cons_zero, List.set_cons_succ]
  refine wpAnyH_take (i := 48) (oi := ?oi_372) (v := ?_) ?hi_372 (by kernel_rfl) ?hf_372 (by kernel_rfl) ?hQ_372 ?hy_372 (by assumption) ?_
  case hi_372 => simp only [List.getElem?_toArray, List.getElem?_cons_zero, List.getElem?_cons_succ]; try rfl
  case hf_372 => kernel_rfl
  case hQ_372 => exact fun _ _ _ h => h
  case hy_372 =>
    refine Or.inl ⟨by rfl, ?_⟩
    intro W hSw
    obtain ⟨q3x, q3y, q4x, q4y, q5x, q5y, q8x, q8y, q9x, q9y⟩ := hSw
    go_simp
    try with_reducible rfl
  try simp only [Act.put, List.setIfInBounds_toArray, List.set_cons_zero, List.set_cons_succ]
  refine wpAnyH_take (i := 49) (oi := ?oi_373) (v := ?_) ?hi_373 (by kernel_rfl) ?hf_373 (by kernel_rfl) ?hQ_373 ?hy_373 (by assumption) ?_
  case hi_373 => simp only [List.getElem?_toArray, List.getElem?_cons_zero, List.getElem?_cons_succ]; try rfl
  case hf_373 => kernel_rfl
  case hQ_373 => exact fun _ _ _ h => h
  case hy_373 =>
    refine Or.inl ⟨by rfl, ?_⟩
    intro W hSw
    obtain ⟨q3x, q3y, q4x, q4y, q5x, q5y, q8x, q8y, q9x, q9y⟩ := hSw
    go_simp
    try with_reducible rfl
  try simp only [Act.put, List.setIfInBounds_toArray, List.set_cons_zero, List.set_cons_succ]
  refine wpAnyH_take (i := 50) (oi := ?oi_374) (v := ?_) ?hi_374 (by kernel_rfl) ?hf_374 (by kernel_rfl) ?hQ_374 ?hy_374 (by assumption) ?_
  case hi_374 => simp only [List.getElem?_toArray, List.getElem?_cons_zero, List.getElem?_cons_succ]; try rfl
  case hf_374 => kernel_rfl
  case hQ_374 => exact fun _ _ _ h => h
  case hy_374 =>
    refine Or.inl ⟨by rfl, ?_⟩
    intro W hSw
    obtain ⟨q3x, q3y, q4x, q4y, q5x, q5y, q8x, q8y, q9x, q9y⟩ := hSw
    go_simp
    try with_reducible rfl
  try simp only [Act.put, List.setIfInBounds_toArray, List.set_cons_zero, List.set_cons_succ]
  refine wpAnyH_take (i := 51) (oi := ?oi_375) (v := ?_) ?hi_375 (by kernel_rfl) ?hf_375 (by kernel_rfl) ?hQ_375 ?hy_375 (by assumption) ?_
  case hi_375 => simp only [List.getElem?_toArray, List.getElem?_cons_zero, List.getElem?_cons_succ]; try rfl
  case hf_375 => kernel_rfl
  case hQ_375 => exact fun _ _ _ h => h
  case hy_375 =>
    refine Or.inl ⟨by rfl, ?_⟩
    intro W hSw
    obtain ⟨q3x, q3y, q4x, q4y, q5x, q5y, q8x, q8y, q9x, q9y⟩ := hSw
    go_simp
    try with_reducible rfl
  try simp only [Act.put, List.setIfInBounds_toArray, List.set_cons_zero, List.set_cons_succ]
  refine wpAnyH_take (i := 52) (oi := ?oi_376) (v := ?_) ?hi_376 (by kernel_rfl) ?hf_376 (by kernel_rfl) ?hQ_376 ?hy_376 (by assumption) ?_
  case hi_376 => simp only [List.getElem?_toArray, List.getElem?_cons_zero, List.getElem?_cons_succ]; try rfl
  case hf_376 => kernel_rfl
  case hQ_376 => exact fun _ _ _ h => h
  case hy_376 =>
    refine Or.inl ⟨by rfl, ?_⟩
    intro W hSw
    obtain ⟨q3x, q3y, q4x, q4y, q5x, q5y, q8x, q8y, q9x, q9y⟩ := hSw
    go_simp
    try with_reducible rfl
  try simp only [Act.put, List.setIfInBounds_toArray, List.set_cons_zero, List.set_cons_succ]
  refine wpAnyH_ready (rs := [53]) (by kernel_rfl) (by simp) ?_
  refine AllReadyH.cons (o := ?oi_377) ?hi_377 (fun K hK => ?_) AllReadyH.nil
  case hi_377 => simp only [List.getElem?_toArray, List.getElem?_cons_zero, List.getElem?_cons_succ]; try rfl
  go_simp
  (go_at_call 61
   with_reducible refine (E3.out _ HB3.out).mono ?_
   rintro e w4 ⟨rfl, hb4⟩
   have HB4 : Hid (Below w.heap.size w w4) := Lib.hid (HB3.out.trans (hb4.mono HB3.out.size))
   clear hb4)
  refine hK.out _ _ ⟨(HX.out.below HB4.out HX.out.lt).cell 3, (HY.out.below HB4.out HY.out.lt).cell 3, (HX.out.below HB4.out HX.out.lt).cell 4, (HY.out.below HB4.out HY.out.lt).cell 4, (HX.out.below HB4.out HX.out.lt).cell 5, (HY.out.below HB4.out HY.out.lt).cell 5, (HX.out.below HB4.out HX.out.lt).cell 8, (HY.out.below HB4.out HY.out.lt).cell 8, (HX.out.below HB4.out HX.out.lt).cell 9, (HY.out.below HB4.out HY.out.lt).cell 9⟩ (fun hHeld => ?_)
  clear hK K
  try simp only [Act.put, List.setIfInBounds_toArray, List.set_cons_zero, List.set_cons_succ]
  refine wpAnyH_take (i := 54) (oi := ?oi_378) (v := ?_) ?hi_378 (by kernel_rfl) ?hf_378 (by kernel_rfl) ?hQ_378 ?hy_378 (by assumption) ?_
  case hi_378 => simp only [List.getElem?_toArray, List.getElem?_cons_zero, List.getElem?_cons_succ]; try rfl
  case hf_378 => kernel_rfl
  case hQ_378 => exact fun _ _ _ h => h
  case hy_378 =>
    refine Or.inl ⟨by rfl, ?_⟩
    intro W hSw
    obtain ⟨q3x, q3y, q4x, q4y, q5x, q5y, q8x, q8y, q9x, q9y⟩ := hSw
    go_simp
    try with_reducible rfl
  try simp only [Act.put, List.setIfInBounds_toArray, List.set_cons_zero, List.set_cons_succ]
  refine wpAnyH_take (i := 55) (oi := ?oi_379) (v := ?_) ?hi_379 (by kernel_rfl) ?hf_379 (by kernel_rfl) ?hQ_379 ?hy_379 (by assumption) ?_
  case hi_379 => simp only [List.getElem?_toArray, List.getElem?_cons_zero, List.getElem?_cons_succ]; try rfl
  case hf_379 => kernel_rfl
  case hQ_379 => exact fun _ _ _ h => h
  case hy_379 =>
    refine Or.inl ⟨by rfl, ?_⟩
    intro W hSw
    obtain ⟨q3x, q3y, q4x, q4y, q5x, q5y, q8x, q8y, q9x, q9y⟩ := hSw
    go_simp
    try with_reducible rfl
  try simp only [Act.put, List.setIfInBounds_toArray, List.set_cons_zero, List.set_cons_succ]
  refine wpAnyH_done (by kernel_rfl) ?_ _
  clear hHeld
  go_wp2
  go_ret
  exact ⟨rfl, HB4.out⟩
end Go.Proofs.Ytackompihengfaa
