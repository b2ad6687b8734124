/-
  the document's Right: form 1.
-/
import Derived.Test.YtggfaalodojjkaaGreatDoorYD
import Derived.BigGuard
namespace Go.Proofs.YtggfaalodojjkaaGreatDoor
open Go.RowKit
set_option linter.unusedVariables false
set_option linter.unusedSimpArgs false
set_option maxHeartbeats 4000000 in
set_option maxRecDepth 100000 in
theorem RRight_1 (cd a b al : Int) (A : Option Addr) (c : Nat) (l : List Int)  (w : World) (hl : Sl w A l.length c l) (nm : ByteArray) (hne : nm.toList.isEmpty = false)
    (hN : ∀ W, Calls Tryz.prog 36 #[.int .i64 cd] W fun e w' => e = .returned (.string nm) ∧ Below W.heap.size W w') (hF : ∀ W, Calls Tryz.prog 37 #[.int .i64 cd] W fun e w' => e = .returned (.int .i64 (1 : Int)) ∧ W = w') :
    Calls Tryz.prog 11 #[.agg #[.int .i64 cd, .int .u64 a, .int .u64 b, .int .i64 al, .slice A l.length c]] w fun e w' => e = .returned (.bool (rgB ⟨cd, a, b, al, l⟩ (1 : Int))) ∧ Below w.heap.size w w' := by
  obtain ⟨W0, hW0⟩ : ∃ V, V = w.alloc (.cells #[.int .i64 cd, .int .u64 a, .int .u64 b, .int .i64 al, .slice A l.length c] 25) := ⟨_, rfl⟩
  have hb0 : Below w.heap.size w W0 := by rw [hW0]; exact (Below.refl _ _).alloc (Nat.le_refl _) _
  have hX0 : Blk W0 w.heap.size 25 #[.int .i64 cd, .int .u64 a, .int .u64 b, .int .i64 al, .slice A l.length c] := by rw [hW0]; exact Blk.new w 25 _
  have HB0 := Lib.hid hb0
  have HW0 := Lib.hid hW0
  have HN := Lib.hid (hN W0)
  have HF := Lib.hid hF
  have hnc := hl.2.1
  have hcm := hl.2.2.1
  unfold maxLen at hcm
  have HSL : Hid (∀ V, Below W0.heap.size W0 V → Sl V A l.length c l) := Lib.hid (fun V hV => hl.below (hb0.trans (hV.mono hb0.size)))
  have HK : Hid (∀ V, Below W0.heap.size W0 V → V.cell? ⟨w.heap.size, 0, none⟩ = some (.int .i64 cd) ∧ V.cell? ⟨w.heap.size, 1, none⟩ = some (.int .u64 a) ∧ V.cell? ⟨w.heap.size, 2, none⟩ = some (.int .u64 b) ∧ V.cell? ⟨w.heap.size, 3, none⟩ = some (.int .i64 al) ∧ V.cell? ⟨w.heap.size, 4, none⟩ = some (.slice A l.length c)) := Lib.hid (fun V hV => by
    have hx := hX0.below hV hX0.lt
    exact ⟨hx.cell 0, hx.cell 1, hx.cell 2, hx.cell 3, hx.cell 4⟩)
  have x0 : W0.cell? ⟨w.heap.size, 0, none⟩ = some (.int .i64 cd) := hX0.cell 0
  clear hb0 hX0 hW0 hN hF hl
  by_cases pA : 4294967295 < a
  · have hr : rgB ⟨cd, a, b, al, l⟩ (1 : Int) = false := by simp [rgB, *]
    rw [hr]
    clear hr
    try clear za
    try clear zb
    try clear zal
    try clear h64
    try clear h126
    try clear h127
    try clear p65
    go_enter Tryz.func11, Tryz.ntmps11
    go_upto_region 1 with fail
    rw [← HW0.out]
    go_wp2_with (first
      | (go_at_call 36; (with_reducible refine HN.out.mono ?_); rintro e w1 ⟨rfl, hb1⟩
         have HB1 := Lib.hid hb1
         obtain ⟨y0, y1, y2, y3, y4⟩ := HK.out w1 hb1
         clear hb1)
      | (go_at_call 37; (with_reducible refine (HF.out _).mono ?_); rintro e w2 ⟨rfl, rfl⟩))
    all_goals
      go_ret
      exact ⟨rfl, HB0.out.trans (HB1.out.mono HB0.out.size)⟩
  by_cases pB : 4294967295 < b
  · have hr : rgB ⟨cd, a, b, al, l⟩ (1 : Int) = false := by simp [rgB, *]
    rw [hr]
    clear hr
    try clear za
    try clear zb
    try clear zal
    try clear h64
    try clear h126
    try clear h127
    try clear p65
    go_enter Tryz.func11, Tryz.ntmps11
    go_upto_region 1 with fail
    rw [← HW0.out]
    go_wp2_with (first
      | (go_at_call 36; (with_reducible refine HN.out.mono ?_); rintro e w1 ⟨rfl, hb1⟩
         have HB1 := Lib.hid hb1
         obtain ⟨y0, y1, y2, y3, y4⟩ := HK.out w1 hb1
         clear hb1)
      | (go_at_call 37; (with_reducible refine (HF.out _).mono ?_); rintro e w2 ⟨rfl, rfl⟩))
    all_goals
      go_ret
      exact ⟨rfl, HB0.out.trans (HB1.out.mono HB0.out.size)⟩
  by_cases h64 : a = 64
  · have n64 : (a != 64) = false := by simp [h64]
    by_cases zb : b = 0
    case neg =>
      have nb : (b != 0) = true := by simp [zb]
      have hr : rgB ⟨cd, a, b, al, l⟩ (1 : Int) = false := by simp [rgB, *]
      rw [hr]
      clear hr
      try clear za
      try clear zb
      try clear zal
      try clear h64
      try clear h126
      try clear h127
      try clear p65
      go_enter Tryz.func11, Tryz.ntmps11
      go_upto_region 1 with fail
      rw [← HW0.out]
      go_wp2_with (first
        | (go_at_call 36; (with_reducible refine HN.out.mono ?_); rintro e w1 ⟨rfl, hb1⟩
           have HB1 := Lib.hid hb1
           obtain ⟨y0, y1, y2, y3, y4⟩ := HK.out w1 hb1
           clear hb1)
        | (go_at_call 37; (with_reducible refine (HF.out _).mono ?_); rintro e w2 ⟨rfl, rfl⟩))
      all_goals
        go_ret
        exact ⟨rfl, HB0.out.trans (HB1.out.mono HB0.out.size)⟩
    have nb : (b != 0) = false := by simp [zb]
    by_cases zal : al = 0
    case neg =>
      have nal : (al != 0) = true := by simp [zal]
      have hr : rgB ⟨cd, a, b, al, l⟩ (1 : Int) = false := by simp [rgB, *]
      rw [hr]
      clear hr
      try clear za
      try clear zb
      try clear zal
      try clear h64
      try clear h126
      try clear h127
      try clear p65
      go_enter Tryz.func11, Tryz.ntmps11
      go_upto_region 1 with fail
      rw [← HW0.out]
      go_wp2_with (first
        | (go_at_call 36; (with_reducible refine HN.out.mono ?_); rintro e w1 ⟨rfl, hb1⟩
           have HB1 := Lib.hid hb1
           obtain ⟨y0, y1, y2, y3, y4⟩ := HK.out w1 hb1
           clear hb1)
        | (go_at_call 37; (with_reducible refine (HF.out _).mono ?_); rintro e w2 ⟨rfl, rfl⟩))
      all_goals
        go_ret
        exact ⟨rfl, HB0.out.trans (HB1.out.mono HB0.out.size)⟩
    have nal : (al != 0) = false := by simp [zal]
    have pM : ¬ al < 0 := by omega
    have pL : ¬ 31 < al := by omega
    have hr : rgB ⟨cd, a, b, al, l⟩ (1 : Int) = (okW l && (decide (l.length = 0) || (decide ((1 : Int) = 3) && decide (l.length ≤ 100)))) := by
      simp [rgB, *]
    rw [hr]
    obtain ⟨R, hR⟩ : ∃ R, R = (okW l && (decide (l.length = 0) || (decide ((1 : Int) = 3) && decide (l.length ≤ 100)))) := ⟨_, rfl⟩
    rw [← hR]
    have HRR := Lib.hid hR
    clear hr hR
    try clear p65
    obtain ⟨q65, r65⟩ : ∃ q, (cd == 65) = q := ⟨_, rfl⟩
    cases q65
    all_goals
      try clear za
      try clear zb
      try clear zal
      try clear h64
      try clear h126
      try clear h127
      try clear p65
      go_enter Tryz.func11, Tryz.ntmps11
      go_upto_region 1 with fail
      rw [← HW0.out]
      go_wp2_with (first
        | (go_at_call 36; (with_reducible refine HN.out.mono ?_); rintro e w1 ⟨rfl, hb1⟩
           have HB1 := Lib.hid hb1
           obtain ⟨y0, y1, y2, y3, y4⟩ := HK.out w1 hb1
           clear hb1)
        | (go_at_call 37; (with_reducible refine (HF.out _).mono ?_); rintro e w2 ⟨rfl, rfl⟩))
      go_loopw [4] (fun v4 wr => ∃ k : Nat, k ≤ l.length ∧ v4 = .int .i64 k ∧ Hid ((l.take k).all (fun z => !decide (4294967295 < z)) = true) ∧ Hid (wr = w1)) (fun v4 _ => l.length - (intOf v4).toNat)
      case atStart => exact ⟨0, by omega, rfl, Lib.hid rfl, Lib.hid rfl⟩
      case round =>
        obtain ⟨k, hk, rfl, HA, HD⟩ := hrel
        obtain rfl := HD.out
        clear HD
        by_cases hlt : k < l.length
        · obtain ⟨g1, off, rfl, hbl, hcell⟩ := (HSL.out wr HB1.out).2.2.2 (by omega)
          have h0 : wr.cell? ⟨g1, off + k, none⟩ = some (.int .u64 (l.getD k 0)) := hcell k hlt
          have HT := Lib.hid (fun h => all_take_i (f := fun z => !decide (4294967295 < z)) hlt HA.out h)
          have HNO : Hid (4294967295 < l.getD k 0 → okW l = false) := Lib.hid (fun h => by
            have hm : l.getD k 0 ∈ l := by rw [List.getD_eq_getElem?_getD, List.getElem?_eq_getElem hlt]; exact List.getElem_mem hlt
            unfold okW
            rw [List.all_eq_false]
            exact ⟨_, hm, by simpa using h⟩)
          clear hcell
          generalize l.getD k 0 = z at h0 HT HNO
          by_cases hz : 4294967295 < z
          · have HO : Hid (R = false) := Lib.hid (by rw [HRR.out, HNO.out hz]; rfl)
            go_wp2
            go_ret
            exact ⟨by rw [HO.out]; rfl, HB0.out.trans (HB1.out.mono HB0.out.size)⟩
          · have HA2 := Lib.hid (HT.out (by simpa using hz))
            go_wp2
            go_roundw
            case rel => exact ⟨k + 1, by omega, by go_num, HA2, Lib.hid (by trivial)⟩
            case measure => simp [intOf]; omega
        · obtain rfl : k = l.length := by omega
          have HO : Hid (okW l = true) := Lib.hid (by have h := HA.out; rwa [List.take_of_length_le (Nat.le_refl _)] at h)
          by_cases hl0 : l.length = 0
          · have HR : Hid (R = true) := Lib.hid (by rw [HRR.out, HO.out]; simp [hl0])
            have hl1 : ((l.length : Int) == 0) = true := by rw [hl0]; rfl
            go_wp2
            go_ret
            exact ⟨by rw [HR.out]; rfl, HB0.out.trans (HB1.out.mono HB0.out.size)⟩
          · have hl1 : ((l.length : Int) == 0) = false := by rw [beq_eq_false_iff_ne]; omega
            have HR : Hid (R = false) := Lib.hid (by rw [HRR.out]; simp [hl0, *])
            go_wp2
            go_ret
            exact ⟨by rw [HR.out]; rfl, HB0.out.trans (HB1.out.mono HB0.out.size)⟩
  have n64 : (a != 64) = true := by simp [h64]
  by_cases h126 : a = 126
  · have n126 : (a != 126) = false := by simp [h126]
    by_cases zb : b = 0
    case neg =>
      have nb : (b != 0) = true := by simp [zb]
      have hr : rgB ⟨cd, a, b, al, l⟩ (1 : Int) = false := by simp [rgB, *]
      rw [hr]
      clear hr
      try clear za
      try clear zb
      try clear zal
      try clear h64
      try clear h126
      try clear h127
      try clear p65
      go_enter Tryz.func11, Tryz.ntmps11
      go_upto_region 1 with fail
      rw [← HW0.out]
      go_wp2_with (first
        | (go_at_call 36; (with_reducible refine HN.out.mono ?_); rintro e w1 ⟨rfl, hb1⟩
           have HB1 := Lib.hid hb1
           obtain ⟨y0, y1, y2, y3, y4⟩ := HK.out w1 hb1
           clear hb1)
        | (go_at_call 37; (with_reducible refine (HF.out _).mono ?_); rintro e w2 ⟨rfl, rfl⟩))
      all_goals
        go_ret
        exact ⟨rfl, HB0.out.trans (HB1.out.mono HB0.out.size)⟩
    have nb : (b != 0) = false := by simp [zb]
    by_cases zal : al = 0
    case neg =>
      have nal : (al != 0) = true := by simp [zal]
      have hr : rgB ⟨cd, a, b, al, l⟩ (1 : Int) = false := by simp [rgB, *]
      rw [hr]
      clear hr
      try clear za
      try clear zb
      try clear zal
      try clear h64
      try clear h126
      try clear h127
      try clear p65
      go_enter Tryz.func11, Tryz.ntmps11
      go_upto_region 1 with fail
      rw [← HW0.out]
      go_wp2_with (first
        | (go_at_call 36; (with_reducible refine HN.out.mono ?_); rintro e w1 ⟨rfl, hb1⟩
           have HB1 := Lib.hid hb1
           obtain ⟨y0, y1, y2, y3, y4⟩ := HK.out w1 hb1
           clear hb1)
        | (go_at_call 37; (with_reducible refine (HF.out _).mono ?_); rintro e w2 ⟨rfl, rfl⟩))
      all_goals
        go_ret
        exact ⟨rfl, HB0.out.trans (HB1.out.mono HB0.out.size)⟩
    have nal : (al != 0) = false := by simp [zal]
    have pM : ¬ al < 0 := by omega
    have pL : ¬ 31 < al := by omega
    have hr : rgB ⟨cd, a, b, al, l⟩ (1 : Int) = (okW l && (decide (l.length = 0) || (decide ((1 : Int) = 3) && decide (l.length ≤ 100)))) := by
      simp [rgB, *]
    rw [hr]
    obtain ⟨R, hR⟩ : ∃ R, R = (okW l && (decide (l.length = 0) || (decide ((1 : Int) = 3) && decide (l.length ≤ 100)))) := ⟨_, rfl⟩
    rw [← hR]
    have HRR := Lib.hid hR
    clear hr hR
    try clear p65
    obtain ⟨q65, r65⟩ : ∃ q, (cd == 65) = q := ⟨_, rfl⟩
    cases q65
    all_goals
      try clear za
      try clear zb
      try clear zal
      try clear h64
      try clear h126
      try clear h127
      try clear p65
      go_enter Tryz.func11, Tryz.ntmps11
      go_upto_region 1 with fail
      rw [← HW0.out]
      go_wp2_with (first
        | (go_at_call 36; (with_reducible refine HN.out.mono ?_); rintro e w1 ⟨rfl, hb1⟩
           have HB1 := Lib.hid hb1
           obtain ⟨y0, y1, y2, y3, y4⟩ := HK.out w1 hb1
           clear hb1)
        | (go_at_call 37; (with_reducible refine (HF.out _).mono ?_); rintro e w2 ⟨rfl, rfl⟩))
      go_loopw [4] (fun v4 wr => ∃ k : Nat, k ≤ l.length ∧ v4 = .int .i64 k ∧ Hid ((l.take k).all (fun z => !decide (4294967295 < z)) = true) ∧ Hid (wr = w1)) (fun v4 _ => l.length - (intOf v4).toNat)
      case atStart => exact ⟨0, by omega, rfl, Lib.hid rfl, Lib.hid rfl⟩
      case round =>
        obtain ⟨k, hk, rfl, HA, HD⟩ := hrel
        obtain rfl := HD.out
        clear HD
        by_cases hlt : k < l.length
        · obtain ⟨g1, off, rfl, hbl, hcell⟩ := (HSL.out wr HB1.out).2.2.2 (by omega)
          have h0 : wr.cell? ⟨g1, off + k, none⟩ = some (.int .u64 (l.getD k 0)) := hcell k hlt
          have HT := Lib.hid (fun h => all_take_i (f := fun z => !decide (4294967295 < z)) hlt HA.out h)
          have HNO : Hid (4294967295 < l.getD k 0 → okW l = false) := Lib.hid (fun h => by
            have hm : l.getD k 0 ∈ l := by rw [List.getD_eq_getElem?_getD, List.getElem?_eq_getElem hlt]; exact List.getElem_mem hlt
            unfold okW
            rw [List.all_eq_false]
            exact ⟨_, hm, by simpa using h⟩)
          clear hcell
          generalize l.getD k 0 = z at h0 HT HNO
          by_cases hz : 4294967295 < z
          · have HO : Hid (R = false) := Lib.hid (by rw [HRR.out, HNO.out hz]; rfl)
            go_wp2
            go_ret
            exact ⟨by rw [HO.out]; rfl, HB0.out.trans (HB1.out.mono HB0.out.size)⟩
          · have HA2 := Lib.hid (HT.out (by simpa using hz))
            go_wp2
            go_roundw
            case rel => exact ⟨k + 1, by omega, by go_num, HA2, Lib.hid (by trivial)⟩
            case measure => simp [intOf]; omega
        · obtain rfl : k = l.length := by omega
          have HO : Hid (okW l = true) := Lib.hid (by have h := HA.out; rwa [List.take_of_length_le (Nat.le_refl _)] at h)
          by_cases hl0 : l.length = 0
          · have HR : Hid (R = true) := Lib.hid (by rw [HRR.out, HO.out]; simp [hl0])
            have hl1 : ((l.length : Int) == 0) = true := by rw [hl0]; rfl
            go_wp2
            go_ret
            exact ⟨by rw [HR.out]; rfl, HB0.out.trans (HB1.out.mono HB0.out.size)⟩
          · have hl1 : ((l.length : Int) == 0) = false := by rw [beq_eq_false_iff_ne]; omega
            have HR : Hid (R = false) := Lib.hid (by rw [HRR.out]; simp [hl0, *])
            go_wp2
            go_ret
            exact ⟨by rw [HR.out]; rfl, HB0.out.trans (HB1.out.mono HB0.out.size)⟩
  have n126 : (a != 126) = true := by simp [h126]
  by_cases h127 : a = 127
  · have n127 : (a != 127) = false := by simp [h127]
    by_cases zb : b = 0
    case neg =>
      have nb : (b != 0) = true := by simp [zb]
      have hr : rgB ⟨cd, a, b, al, l⟩ (1 : Int) = false := by simp [rgB, *]
      rw [hr]
      clear hr
      try clear za
      try clear zb
      try clear zal
      try clear h64
      try clear h126
      try clear h127
      try clear p65
      go_enter Tryz.func11, Tryz.ntmps11
      go_upto_region 1 with fail
      rw [← HW0.out]
      go_wp2_with (first
        | (go_at_call 36; (with_reducible refine HN.out.mono ?_); rintro e w1 ⟨rfl, hb1⟩
           have HB1 := Lib.hid hb1
           obtain ⟨y0, y1, y2, y3, y4⟩ := HK.out w1 hb1
           clear hb1)
        | (go_at_call 37; (with_reducible refine (HF.out _).mono ?_); rintro e w2 ⟨rfl, rfl⟩))
      all_goals
        go_ret
        exact ⟨rfl, HB0.out.trans (HB1.out.mono HB0.out.size)⟩
    have nb : (b != 0) = false := by simp [zb]
    by_cases zal : al = 0
    case neg =>
      have nal : (al != 0) = true := by simp [zal]
      have hr : rgB ⟨cd, a, b, al, l⟩ (1 : Int) = false := by simp [rgB, *]
      rw [hr]
      clear hr
      try clear za
      try clear zb
      try clear zal
      try clear h64
      try clear h126
      try clear h127
      try clear p65
      go_enter Tryz.func11, Tryz.ntmps11
      go_upto_region 1 with fail
      rw [← HW0.out]
      go_wp2_with (first
        | (go_at_call 36; (with_reducible refine HN.out.mono ?_); rintro e w1 ⟨rfl, hb1⟩
           have HB1 := Lib.hid hb1
           obtain ⟨y0, y1, y2, y3, y4⟩ := HK.out w1 hb1
           clear hb1)
        | (go_at_call 37; (with_reducible refine (HF.out _).mono ?_); rintro e w2 ⟨rfl, rfl⟩))
      all_goals
        go_ret
        exact ⟨rfl, HB0.out.trans (HB1.out.mono HB0.out.size)⟩
    have nal : (al != 0) = false := by simp [zal]
    have pM : ¬ al < 0 := by omega
    have pL : ¬ 31 < al := by omega
    have hr : rgB ⟨cd, a, b, al, l⟩ (1 : Int) = (okW l && (decide (l.length = 0) || (decide ((1 : Int) = 3) && decide (l.length ≤ 100)))) := by
      simp [rgB, *]
    rw [hr]
    obtain ⟨R, hR⟩ : ∃ R, R = (okW l && (decide (l.length = 0) || (decide ((1 : Int) = 3) && decide (l.length ≤ 100)))) := ⟨_, rfl⟩
    rw [← hR]
    have HRR := Lib.hid hR
    clear hr hR
    try clear p65
    obtain ⟨q65, r65⟩ : ∃ q, (cd == 65) = q := ⟨_, rfl⟩
    cases q65
    all_goals
      try clear za
      try clear zb
      try clear zal
      try clear h64
      try clear h126
      try clear h127
      try clear p65
      go_enter Tryz.func11, Tryz.ntmps11
      go_upto_region 1 with fail
      rw [← HW0.out]
      go_wp2_with (first
        | (go_at_call 36; (with_reducible refine HN.out.mono ?_); rintro e w1 ⟨rfl, hb1⟩
           have HB1 := Lib.hid hb1
           obtain ⟨y0, y1, y2, y3, y4⟩ := HK.out w1 hb1
           clear hb1)
        | (go_at_call 37; (with_reducible refine (HF.out _).mono ?_); rintro e w2 ⟨rfl, rfl⟩))
      go_loopw [4] (fun v4 wr => ∃ k : Nat, k ≤ l.length ∧ v4 = .int .i64 k ∧ Hid ((l.take k).all (fun z => !decide (4294967295 < z)) = true) ∧ Hid (wr = w1)) (fun v4 _ => l.length - (intOf v4).toNat)
      case atStart => exact ⟨0, by omega, rfl, Lib.hid rfl, Lib.hid rfl⟩
      case round =>
        obtain ⟨k, hk, rfl, HA, HD⟩ := hrel
        obtain rfl := HD.out
        clear HD
        by_cases hlt : k < l.length
        · obtain ⟨g1, off, rfl, hbl, hcell⟩ := (HSL.out wr HB1.out).2.2.2 (by omega)
          have h0 : wr.cell? ⟨g1, off + k, none⟩ = some (.int .u64 (l.getD k 0)) := hcell k hlt
          have HT := Lib.hid (fun h => all_take_i (f := fun z => !decide (4294967295 < z)) hlt HA.out h)
          have HNO : Hid (4294967295 < l.getD k 0 → okW l = false) := Lib.hid (fun h => by
            have hm : l.getD k 0 ∈ l := by rw [List.getD_eq_getElem?_getD, List.getElem?_eq_getElem hlt]; exact List.getElem_mem hlt
            unfold okW
            rw [List.all_eq_false]
            exact ⟨_, hm, by simpa using h⟩)
          clear hcell
          generalize l.getD k 0 = z at h0 HT HNO
          by_cases hz : 4294967295 < z
          · have HO : Hid (R = false) := Lib.hid (by rw [HRR.out, HNO.out hz]; rfl)
            go_wp2
            go_ret
            exact ⟨by rw [HO.out]; rfl, HB0.out.trans (HB1.out.mono HB0.out.size)⟩
          · have HA2 := Lib.hid (HT.out (by simpa using hz))
            go_wp2
            go_roundw
            case rel => exact ⟨k + 1, by omega, by go_num, HA2, Lib.hid (by trivial)⟩
            case measure => simp [intOf]; omega
        · obtain rfl : k = l.length := by omega
          have HO : Hid (okW l = true) := Lib.hid (by have h := HA.out; rwa [List.take_of_length_le (Nat.le_refl _)] at h)
          by_cases hl0 : l.length = 0
          · have HR : Hid (R = true) := Lib.hid (by rw [HRR.out, HO.out]; simp [hl0])
            have hl1 : ((l.length : Int) == 0) = true := by rw [hl0]; rfl
            go_wp2
            go_ret
            exact ⟨by rw [HR.out]; rfl, HB0.out.trans (HB1.out.mono HB0.out.size)⟩
          · have hl1 : ((l.length : Int) == 0) = false := by rw [beq_eq_false_iff_ne]; omega
            have HR : Hid (R = false) := Lib.hid (by rw [HRR.out]; simp [hl0, *])
            go_wp2
            go_ret
            exact ⟨by rw [HR.out]; rfl, HB0.out.trans (HB1.out.mono HB0.out.size)⟩
  have n127 : (a != 127) = true := by simp [h127]
  have hr : rgB ⟨cd, a, b, al, l⟩ (1 : Int) = false := by simp [rgB, *]
  rw [hr]
  clear hr
  try clear za
  try clear zb
  try clear zal
  try clear h64
  try clear h126
  try clear h127
  try clear p65
  go_enter Tryz.func11, Tryz.ntmps11
  go_upto_region 1 with fail
  rw [← HW0.out]
  go_wp2_with (first
    | (go_at_call 36; (with_reducible refine HN.out.mono ?_); rintro e w1 ⟨rfl, hb1⟩
       have HB1 := Lib.hid hb1
       obtain ⟨y0, y1, y2, y3, y4⟩ := HK.out w1 hb1
       clear hb1)
    | (go_at_call 37; (with_reducible refine (HF.out _).mono ?_); rintro e w2 ⟨rfl, rfl⟩))
  all_goals
    go_ret
    exact ⟨rfl, HB0.out.trans (HB1.out.mono HB0.out.size)⟩
end Go.Proofs.YtggfaalodojjkaaGreatDoor
