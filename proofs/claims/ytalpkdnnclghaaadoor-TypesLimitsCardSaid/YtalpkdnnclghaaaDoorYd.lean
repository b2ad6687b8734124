/-
  The law of limits: one case of four.
-/
import Derived.Test.YtalpkdnnclghaaaDoorXg
import Derived.Deep.DeepCutAuto
import Derived.Deep.RegionHeld3
import Derived.WalkKit
namespace Go.Proofs.YtalpkdnnclghaaaDoor
open Go.ChangeShapes Go.WideShapes Go.ChangeAt Go.RowKit
set_option linter.unusedVariables false
set_option linter.unusedSimpArgs false
set_option maxHeartbeats 8000000 in
set_option maxRecDepth 100000 in
theorem lim_pt (a b mo : Int) (hbn : ¬ b < 0) (s : List UInt8) (S : ByteArray) (hS : bs s = S) (w : World) (hL : Lw w) (hs : s.length ≤ 100)
    (ha0 : -9223372036854775808 ≤ a) (ha1 : a ≤ 9223372036854775807) (hb0 : -9223372036854775808 ≤ b) (hb1 : b ≤ 9223372036854775807) (hm0 : -9223372036854775808 ≤ mo) (hm1 : mo ≤ 9223372036854775807) :
    Calls Tryd.prog 5 #[.agg #[.int .i64 a, .int .i64 b, .bool true], .int .i64 mo, .string S] w fun e w' => e = .returned (.bool true) ∧ Below w.heap.size w w' := by
  obtain ⟨W0, hW0⟩ : ∃ W0, W0 = w.alloc (.cells #[.int .i64 a, .int .i64 b, .bool true] 40) := ⟨_, rfl⟩
  have hbel : Below w.heap.size w W0 := by rw [hW0]; exact (Below.refl _ _).alloc (Nat.le_refl _) _
  have HL0 := Lib.hid (hL.below hbel)
  obtain ⟨m, h5, hm⟩ := HL0.out.mx
  have HA := Lib.hid (awake9_any m _ h5 hm)
  have HB0 := Lib.hid hbel
  have HK0 : Hid (Blk W0 w.heap.size 40 #[.int .i64 a, .int .i64 b, .bool true]) := Lib.hid (by rw [hW0]; exact Blk.new w 40 _)
  have HWE := Lib.hid hW0
  have k0' : ¬ (100 : Int) < (S.size : Int) := by rw [← hS, bs_size]; omega
  have HS := Lib.hid hS
  have HSl := Lib.hid hs
  clear hm h5 hL hbel hW0 hs hS
  go_enter Tryd.func5, Tryd.ntmps5
  go_wp2_with fail
  rw [← HWE.out]
  go_upto_region 3 with (
    go_at_call 13
    (with_reducible refine HA.out.mono ?_)
    rintro e w1 ⟨rfl, hb⟩
    have HB1 := Lib.hid (HB0.out.trans (hb.mono HB0.out.size))
    have HL1 := Lib.hid (HL0.out.below hb)
    have HK1 := Lib.hid (HK0.out.below hb HK0.out.lt)
    have x0 := HK1.out.cell 0
    have x1 := HK1.out.cell 1
    have x2 := HK1.out.cell 2
    clear hb)
  go_cut [7] (fun s7 wx => s7 = .bool (isR a b mo) ∧ wx = w1)
  case first =>
    by_cases g0 : 0 ≤ a
    · by_cases g1 : a ≤ mo
      · by_cases g2 : b < 0
        · first
            | (exfalso; omega)
            | (go_wp2_with fail
               all_goals (go_meet; exact ⟨by unfold isR; simp [g0, g1, g2], rfl⟩))
        · by_cases g3 : a ≤ b
          · by_cases g4 : b ≤ mo
            · first
                | (exfalso; omega)
                | (go_wp2_with fail
                   all_goals (go_meet; exact ⟨by unfold isR; simp [g0, g1, g2, g3, g4], rfl⟩))
            · first
                | (exfalso; omega)
                | (go_wp2_with fail
                   all_goals (go_meet; exact ⟨by unfold isR; simp [g0, g1, g2, g3, g4], rfl⟩))
          · first
              | (exfalso; omega)
              | (go_wp2_with fail
                 all_goals (go_meet; exact ⟨(by unfold isR; simp [g0, g1, g2, g3]; try (intros; omega)), rfl⟩))
      · go_wp2_with fail
        all_goals (go_meet; exact ⟨(by unfold isR; simp [g0, g1]; try (intros; omega)), rfl⟩)
    · go_wp2_with fail
      all_goals (go_meet; exact ⟨(by unfold isR; simp [g0]; try (intros; omega)), rfl⟩)
  case rest =>
    obtain ⟨rfl, hw⟩ := hcut
    subst hw
    have HPA : Hid (∀ W, Calls Tryd.prog 22 #[.int .i64 64, .int .u64 (IntKind.u64.wrap a)] W fun e w' => e = .returned (.string (bs (Lib.itoa a))) ∧ Below W.heap.size W w') := Lib.hid (fun W => RPrint_i64 a ha0 ha1 W)
    have HPB : Hid (∀ W, Calls Tryd.prog 22 #[.int .i64 64, .int .u64 (IntKind.u64.wrap b)] W fun e w' => e = .returned (.string (bs (Lib.itoa b))) ∧ Below W.heap.size W w') := Lib.hid (fun W => RPrint_i64 b hb0 hb1 W)
    have HP : Hid (∀ W, Lw W → Calls Tryd.prog 24 #[.agg #[.int .i64 a, .int .i64 b, .bool true]] W fun e w' => e = .returned (.string (bs (lmT a b true))) ∧ Below W.heap.size W w') := Lib.hid (fun W h => LPrint_ok a b true ha0 ha1 hb0 hb1 W h)
    have HX : Hid (∀ W, Lw W → Calls Tryd.prog 23 #[.string (bs (lmT a b true))] W (PxP a b true W)) := Lib.hid (fun W h => Px_any a b true ha0 ha1 hb0 hb1 W h)
    have HRt : Hid (∀ W, Calls Tryd.prog 25 #[.agg #[.int .i64 a, .int .i64 b, .bool true], .int .i64 mo] W fun e w' => e = .returned (.bool (isR a b mo)) ∧ Below W.heap.size W w') := Lib.hid (fun W => LRight_ok a b mo true W)
    have HMo : Hid (∀ W, Calls Tryd.prog 26 #[.agg #[.int .i64 a, .int .i64 b, .bool true], .int .i64 mo] W fun e w' => e = .returned (.int .i64 (if b < 0 then mo else b)) ∧ Below W.heap.size W w') := Lib.hid (fun W => LMost_ok a b mo true W)
    have HPS : Hid (∀ W, Lw W → Calls Tryd.prog 23 #[.string S] W (LiP (lmF s) W)) := Lib.hid (fun W h => by rw [← HS.out]; exact ParseLimits_any s (by have := HSl.out; omega) W h)
    have HRS : Hid (∀ W, Calls Tryd.prog 27 #[.string S] W (RlP (lmF s) W)) := Lib.hid (fun W => by rw [← HS.out]; exact RLimits_any s HSl.out W)
    have hla := itoa_len a ha0 ha1
    have hlb := itoa_len b hb0 hb1
    generalize isR a b mo = q at HRt
    clear HA
    have hbn : ¬ b < 0 := by omega
    rw [if_neg hbn] at HMo
    have hT : lmT a b true = Lib.itoa a ++ [32] ++ Lib.itoa b ++ [32, 105, 54, 52] := by unfold lmT; rw [if_neg hbn]; simp
    have f0 : Op.stringOp .add (bs (Lib.itoa a)) ⟨#[32, 45]⟩ = pure (.string (bs (Lib.itoa a ++ [32, 45]))) := cat_bs (Lib.itoa a) [32, 45] (by simp; omega)
    have f1 : Op.stringOp .add (bs (Lib.itoa a)) ⟨#[32]⟩ = pure (.string (bs (Lib.itoa a ++ [32]))) := cat_bs (Lib.itoa a) [32] (by simp; omega)
    have f2 : Op.stringOp .add (bs (Lib.itoa a ++ [32])) (bs (Lib.itoa b)) = pure (.string (bs (Lib.itoa a ++ [32] ++ Lib.itoa b))) := cat_bs _ _ (by simp; omega)
    have f3 : Op.stringOp .add (bs (Lib.itoa a ++ [32] ++ Lib.itoa b)) ⟨#[32, 105, 54, 52]⟩ = pure (.string (bs (lmT a b true))) := by rw [hT]; exact cat_bs (Lib.itoa a ++ [32] ++ Lib.itoa b) [32, 105, 54, 52] (by simp; omega)
    clear hT hla hlb
    have hst : ((bs (lmT a b true)).toList == (bs (lmT a b true)).toList) = true := by simp
    generalize bs (lmT a b true) = T at HP HX f3 hst
    generalize bs (Lib.itoa a ++ [32] ++ Lib.itoa b) = T2 at f2 f3
    generalize bs (Lib.itoa a ++ [32, 45]) = T0 at f0
    generalize bs (Lib.itoa a ++ [32]) = T1 at f1 f2
    generalize bs (Lib.itoa a) = IA at HPA f0 f1
    generalize bs (Lib.itoa b) = IB at HPB f2
    go_upto_region 9 with (
      go_at_call 22
      (with_reducible refine (HPA.out _).mono ?_)
      rintro e wu ⟨rfl, hb⟩
      have HBu := Lib.hid (HB1.out.trans (hb.mono HB1.out.size))
      have HLu := Lib.hid (HL1.out.below hb)
      have HKu := Lib.hid (HK1.out.below hb HK1.out.lt)
      have u0 := HKu.out.cell 0
      have u1 := HKu.out.cell 1
      have u2 := HKu.out.cell 2
      clear hb)
    have HXu : Hid (∀ W, Below wu.heap.size wu W → Blk W w.heap.size 40 #[.int .i64 a, .int .i64 b, .bool true]) := Lib.hid (fun W h => HKu.out.below h HKu.out.lt)
    have HDu : Hid (Below wu.heap.size wu wu.drew) := Lib.hid (bdD (Below.refl _ _))
    clear u0 u1 u2
    refine wp_region_held_drew (S := (fun W => Below wu.heap.size wu W)) (by kernel_rfl) HDu.out (fun hHeld => ?_)
    refine wpAnyH_take (i := 0) (oi := ?oi_34_w) (v := ?_) ?hi_34_w (by kernel_rfl) ?hf_34_w (by kernel_rfl) ?hQ_34_w ?hy_34_w (by assumption) ?_
    case hi_34_w => simp only [List.getElem?_toArray, List.getElem?_cons_zero, List.getElem?_cons_succ]; rfl
    case hf_34_w => kernel_rfl
    case hQ_34_w => exact fun _ _ _ h => h
    case hy_34_w =>
      refine Or.inl ⟨by rfl, ?_⟩
      intro W hSw
      go_simp
      try with_reducible rfl
    try simp only [Act.put, List.setIfInBounds_toArray, List.set_cons_zero, List.set_cons_succ]
    refine wpAnyH_take (i := 1) (oi := ?oi_35_w) (v := ?_) ?hi_35_w (by kernel_rfl) ?hf_35_w (by kernel_rfl) ?hQ_35_w ?hy_35_w (by assumption) ?_
    case hi_35_w => simp only [List.getElem?_toArray, List.getElem?_cons_zero, List.getElem?_cons_succ]; rfl
    case hf_35_w => kernel_rfl
    case hQ_35_w => exact fun _ _ _ h => h
    case hy_35_w =>
      refine Or.inl ⟨by rfl, ?_⟩
      intro W hSw
      have xa := (HXu.out W hSw).cell 0
      go_simp
      try with_reducible rfl
    try simp only [Act.put, List.setIfInBounds_toArray, List.set_cons_zero, List.set_cons_succ]
    refine wpAnyH_take (i := 2) (oi := ?oi_36_w) (v := ?_) ?hi_36_w (by kernel_rfl) ?hf_36_w (by kernel_rfl) ?hQ_36_w ?hy_36_w (by assumption) ?_
    case hi_36_w => simp only [List.getElem?_toArray, List.getElem?_cons_zero, List.getElem?_cons_succ]; rfl
    case hf_36_w => kernel_rfl
    case hQ_36_w => exact fun _ _ _ h => h
    case hy_36_w =>
      refine Or.inl ⟨by rfl, ?_⟩
      intro W hSw
      go_simp
      try with_reducible rfl
    try simp only [Act.put, List.setIfInBounds_toArray, List.set_cons_zero, List.set_cons_succ]
    refine wpAnyH_take (i := 5) (oi := ?oi_37_w) (v := ?_) ?hi_37_w (by kernel_rfl) ?hf_37_w (by kernel_rfl) ?hQ_37_w ?hy_37_w (by assumption) ?_
    case hi_37_w => simp only [List.getElem?_toArray, List.getElem?_cons_zero, List.getElem?_cons_succ]; rfl
    case hf_37_w => kernel_rfl
    case hQ_37_w => exact fun _ _ _ h => h
    case hy_37_w =>
      refine Or.inl ⟨by rfl, ?_⟩
      intro W hSw
      go_simp
      try with_reducible rfl
    try simp only [Act.put, List.setIfInBounds_toArray, List.set_cons_zero, List.set_cons_succ]
    refine wpAnyH_take (i := 6) (oi := ?oi_38_w) (v := ?_) ?hi_38_w (by kernel_rfl) ?hf_38_w (by kernel_rfl) ?hQ_38_w ?hy_38_w (by assumption) ?_
    case hi_38_w => simp only [List.getElem?_toArray, List.getElem?_cons_zero, List.getElem?_cons_succ]; rfl
    case hf_38_w => kernel_rfl
    case hQ_38_w => exact fun _ _ _ h => h
    case hy_38_w =>
      refine Or.inl ⟨by rfl, ?_⟩
      intro W hSw
      have xb := (HXu.out W hSw).cell 1
      go_simp
      try with_reducible rfl
    try simp only [Act.put, List.setIfInBounds_toArray, List.set_cons_zero, List.set_cons_succ]
    refine wpAnyH_take (i := 7) (oi := ?oi_39_w) (v := ?_) ?hi_39_w (by kernel_rfl) ?hf_39_w (by kernel_rfl) ?hQ_39_w ?hy_39_w (by assumption) ?_
    case hi_39_w => simp only [List.getElem?_toArray, List.getElem?_cons_zero, List.getElem?_cons_succ]; rfl
    case hf_39_w => kernel_rfl
    case hQ_39_w => exact fun _ _ _ h => h
    case hy_39_w =>
      refine Or.inl ⟨by rfl, ?_⟩
      intro W hSw
      go_simp
      try with_reducible rfl
    try simp only [Act.put, List.setIfInBounds_toArray, List.set_cons_zero, List.set_cons_succ]
    refine wpAnyH_ready (rs := [3]) (by kernel_rfl) (by simp) ?_
    refine AllReadyH.cons (o := ?oi_40_w) ?hi_40_w (fun K hK => ?_) AllReadyH.nil
    case hi_40_w => simp only [List.getElem?_toArray, List.getElem?_cons_zero, List.getElem?_cons_succ]; rfl
    go_simp
    (go_at_call 22
     with_reducible refine (HPA.out _).mono ?_
     rintro e wp ⟨rfl, hbn9⟩
     have HBp : Hid (Below wu.heap.size wu wp) := Lib.hid (HDu.out.trans (hbn9.mono HDu.out.size))
     clear hbn9)
    refine hK.out _ _ HBp.out (fun hHeld => ?_)
    clear hK K
    try simp only [Act.put, List.setIfInBounds_toArray, List.set_cons_zero, List.set_cons_succ]
    refine wpAnyH_take (i := 4) (oi := ?oi_41_w) (v := ?_) ?hi_41_w (by kernel_rfl) ?hf_41_w (by kernel_rfl) ?hQ_41_w ?hy_41_w (by assumption) ?_
    case hi_41_w => simp only [List.getElem?_toArray, List.getElem?_cons_zero, List.getElem?_cons_succ]; rfl
    case hf_41_w => kernel_rfl
    case hQ_41_w => exact fun _ _ _ h => h
    case hy_41_w =>
      refine Or.inl ⟨by rfl, ?_⟩
      intro W hSw
      go_simp
      try with_reducible rfl
    try simp only [Act.put, List.setIfInBounds_toArray, List.set_cons_zero, List.set_cons_succ]
    refine wpAnyH_ready (rs := [8]) (by kernel_rfl) (by simp) ?_
    refine AllReadyH.cons (o := ?oi_42_w) ?hi_42_w (fun K hK => ?_) AllReadyH.nil
    case hi_42_w => simp only [List.getElem?_toArray, List.getElem?_cons_zero, List.getElem?_cons_succ]; rfl
    go_simp
    (go_at_call 22
     with_reducible refine (HPB.out _).mono ?_
     rintro e wv ⟨rfl, hbn9⟩
     have HBq : Hid (Below wu.heap.size wu wv) := Lib.hid (HBp.out.trans (hbn9.mono HBp.out.size))
     clear hbn9)
    refine hK.out _ _ HBq.out (fun hHeld => ?_)
    clear hK K
    try simp only [Act.put, List.setIfInBounds_toArray, List.set_cons_zero, List.set_cons_succ]
    refine wpAnyH_take (i := 9) (oi := ?oi_43_w) (v := ?_) ?hi_43_w (by kernel_rfl) ?hf_43_w (by kernel_rfl) ?hQ_43_w ?hy_43_w (by assumption) ?_
    case hi_43_w => simp only [List.getElem?_toArray, List.getElem?_cons_zero, List.getElem?_cons_succ]; rfl
    case hf_43_w => kernel_rfl
    case hQ_43_w => exact fun _ _ _ h => h
    case hy_43_w =>
      refine Or.inl ⟨by rfl, ?_⟩
      intro W hSw
      go_simp
      try with_reducible rfl
    try simp only [Act.put, List.setIfInBounds_toArray, List.set_cons_zero, List.set_cons_succ]
    refine wpAnyH_take (i := 10) (oi := ?oi_44_w) (v := ?_) ?hi_44_w (by kernel_rfl) ?hf_44_w (by kernel_rfl) ?hQ_44_w ?hy_44_w (by assumption) ?_
    case hi_44_w => simp only [List.getElem?_toArray, List.getElem?_cons_zero, List.getElem?_cons_succ]; rfl
    case hf_44_w => kernel_rfl
    case hQ_44_w => exact fun _ _ _ h => h
    case hy_44_w =>
      refine Or.inl ⟨by rfl, ?_⟩
      intro W hSw
      go_simp
      try with_reducible rfl
    try simp only [Act.put, List.setIfInBounds_toArray, List.set_cons_zero, List.set_cons_succ]
    refine wpAnyH_done (by kernel_rfl) ?_ _
    clear hHeld
    have HBv := Lib.hid (HBu.out.trans (HBq.out.mono HBu.out.size))
    have HLv := Lib.hid (HLu.out.below HBq.out)
    have HKv := Lib.hid (HXu.out _ HBq.out)
    have v0 := HKv.out.cell 0
    have v1 := HKv.out.cell 1
    have v2 := HKv.out.cell 2
    go_upto_region 12 with fail
    go_upto_region 13 with (first
      | (go_at_call 24
         (with_reducible refine (HP.out _ HLv.out).mono ?_)
         rintro e wA ⟨rfl, hb⟩
         have HBA := Lib.hid (HBv.out.trans (hb.mono HBv.out.size))
         have HLA := Lib.hid (HLv.out.below hb)
         have HKA := Lib.hid (HKv.out.below hb HKv.out.lt)
         clear hb)
      | (go_at_call 23
         (with_reducible refine (HX.out _ HLA.out).mono ?_)
         rintro e wB ⟨x, y, z, E, rfl, hg, hb⟩
         have HG := Lib.hid hg
         have HBB := Lib.hid (HBA.out.trans (hb.mono HBA.out.size))
         have HLB := Lib.hid (HLA.out.below hb)
         have HKB := Lib.hid (HKA.out.below hb HKA.out.lt)
         clear hb hg))
    obtain ⟨WC, hWC⟩ : ∃ WC, WC = wB.alloc (Obj.cells #[Value.int .i64 x, Value.int .i64 y, Value.bool z] 40) := ⟨_, rfl⟩
    rw [← hWC]
    have bC : Below wB.heap.size wB WC := by rw [hWC]; exact (Below.refl _ _).alloc (Nat.le_refl _) _
    have HKX : Hid (Blk WC wB.heap.size 40 #[.int .i64 x, .int .i64 y, .bool z]) := Lib.hid (by rw [hWC]; exact Blk.new wB 40 _)
    have HKC := Lib.hid (HKB.out.below bC HKB.out.lt)
    have HLC := Lib.hid (HLB.out.below bC)
    have HBC := Lib.hid (HBB.out.trans (bC.mono HBB.out.size))
    have y0 := HKC.out.cell 0
    have y1 := HKC.out.cell 1
    have y2 := HKC.out.cell 2
    clear hWC bC HKA HLA HBA HKB HLB x0 x1 x2
    generalize wB.heap.size = bx at HKX
    go_cut [104] (fun s104 wx => s104 = .bool false ∧ Hid (Below w.heap.size w wx) ∧ Hid (Lw wx) ∧ Hid (Blk wx w.heap.size 40 #[.int .i64 a, .int .i64 b, .bool true]) ∧ Hid (Blk wx bx 40 #[.int .i64 x, .int .i64 y, .bool z]))
    case first =>
      cases q
      all_goals
        go_wp2_with (first
          | (go_at_call 25
             (with_reducible refine (HRt.out _).mono ?_)
             rintro e wD ⟨rfl, hb⟩
             have HBD := Lib.hid (HBC.out.trans (hb.mono HBC.out.size))
             have HLD := Lib.hid (HLC.out.below hb)
             have HKD := Lib.hid (HKC.out.below hb HKC.out.lt)
             have HXD := Lib.hid (HKX.out.below hb HKX.out.lt)
             have yD0 := HKD.out.cell 0
             have yD1 := HKD.out.cell 1
             have yD2 := HKD.out.cell 2
             clear hb)
          | (go_at_call 26
             (with_reducible refine (HMo.out _).mono ?_)
             rintro e wE ⟨rfl, hb⟩
             have HBE := Lib.hid (HBD.out.trans (hb.mono HBD.out.size))
             have HLE := Lib.hid (HLD.out.below hb)
             have HKE := Lib.hid (HKD.out.below hb HKD.out.lt)
             have HXE := Lib.hid (HXD.out.below hb HXD.out.lt)
             have yE0 := HKE.out.cell 0
             have yE1 := HKE.out.cell 1
             have yE2 := HKE.out.cell 2
             clear hb)
          | (go_at_call 24
             (with_reducible refine (HP.out _ HLE.out).mono ?_)
             rintro e wF ⟨rfl, hb⟩
             have HBF := Lib.hid (HBE.out.trans (hb.mono HBE.out.size))
             have HLF := Lib.hid (HLE.out.below hb)
             have HKF := Lib.hid (HKE.out.below hb HKE.out.lt)
             have HXF := Lib.hid (HXE.out.below hb HXE.out.lt)
             clear hb))
        go_meet
        exact ⟨rfl, HBF, HLF, HKF, HXF⟩
    case rest =>
      clear y0 y1 y2 HKC HLC HBC HKX
      obtain ⟨rfl, HBG, HLG, HKG, HXG⟩ := hcut
      have y0 := HKG.out.cell 0
      have y1 := HKG.out.cell 1
      have y2 := HKG.out.cell 2
      have z0 := HXG.out.cell 0
      have z1 := HXG.out.cell 1
      have z2 := HXG.out.cell 2
      go_upto_region 15 with fail
      go_cut [143] (fun s143 wy => s143 = .bool false ∧ wy = wc)
      case first =>
        by_cases g0 : 0 ≤ a
        · by_cases g1 : a ≤ 1000000000
          · by_cases g2 : b ≤ 1000000000
            · obtain ⟨rfl, hy, rfl, rfl⟩ := HG.out ⟨g0, g1, g2⟩
              have hy2 : y = b := by omega
              have hmx : max b (-1) = b := by omega
              subst hy2
              clear hy
              go_wp2_with fail
              all_goals (go_meet; exact ⟨rfl, rfl⟩)
            · first
                | (exfalso; omega)
                | (go_wp2_with fail
                   all_goals (go_meet; exact ⟨rfl, rfl⟩))
          · go_wp2_with fail
            all_goals (go_meet; exact ⟨rfl, rfl⟩)
        · go_wp2_with fail
          all_goals (go_meet; exact ⟨rfl, rfl⟩)
      case rest =>
        obtain ⟨rfl, rfl⟩ := hcut
        clear y0 y1 y2 z0 z1 z2 HXG HKG HG
        cases hF : lmF s with
        | none =>
          rw [hF] at HPS HRS
          clear hF
          go_wp2_with (first
            | (go_at_call 23
               (with_reducible refine (HPS.out _ HLG.out).mono ?_)
               rintro e wH ⟨rfl, hb⟩
               have HBH := Lib.hid (HBG.out.trans (hb.mono HBG.out.size))
               clear hb)
            | (go_at_call 27
               (with_reducible refine (HRS.out _).mono ?_)
               rintro e wI ⟨x9, y9, z9, rfl, _, rfl⟩))
          go_ret
          exact ⟨by simp, (HBH.out.alloc HBH.out.size _)⟩
        | some p =>
          obtain ⟨p1, p2, p3⟩ := p
          rw [hF] at HPS HRS
          clear hF
          go_wp2_with (first
            | (go_at_call 23
               (with_reducible refine (HPS.out _ HLG.out).mono ?_)
               rintro e wH ⟨rfl, hb⟩
               have HBH := Lib.hid (HBG.out.trans (hb.mono HBG.out.size))
               clear hb)
            | (go_at_call 27
               (with_reducible refine (HRS.out _).mono ?_)
               rintro e wI ⟨x9, y9, z9, rfl, hp9, rfl⟩
               have hp8 := hp9 _ rfl
               simp only [Prod.mk.injEq] at hp8
               obtain ⟨rfl, rfl, rfl⟩ := hp8
               clear hp9))
          go_ret
          exact ⟨by simp, (HBH.out.alloc HBH.out.size _)⟩
end Go.Proofs.YtalpkdnnclghaaaDoor
