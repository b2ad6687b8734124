/-
  Texts of YtggfaalodojjkaaGreatDoorYA.
-/
import Derived.Test.YtggfaalodojjkaaGreatDoorY9
import Derived.Test.YtggfaalodojjkaaGreatDoorY8
namespace Go.Proofs.YtggfaalodojjkaaGreatDoor
open Go.RowKit
set_option linter.unusedVariables false
set_option linter.unusedSimpArgs false
section
variable {w w' : World} {f g c N : Nat} {l : List Nat} {fa : Int} {fr t R a0 m : Nat}
theorem acc103 (W : World) : Calls Tryz.prog 103 #[] W fun e w' => e = .returned (.int .u64 ((0 : Nat) : Int)) ∧ W = w' := by
  go_enter Tryz.func103, Tryz.ntmps103
  go_wp2
  go_ret
  exact ⟨rfl, rfl⟩
set_option maxHeartbeats 1000000 in
set_option maxRecDepth 100000 in
theorem acc104 (b : Nat) (h : RI f g c N l fr t R fa a0 m w) (h0 : 0 ≤ fa) (hm : m < 100000) (hb : w.cell? ⟨b, 0, none⟩ = some (.pointer (some ⟨R, 0, none⟩))) : Calls Tryz.prog 104 #[.pointer (some ⟨b, 0, none⟩)] w (WI f g c N l fr t R fa a0 (m + 11) w) := by
  have H := Lib.hid (number_i h h0 hm 32)
  unfold WI at H ⊢
  clear h
  go_enter Tryz.func104, Tryz.ntmps104
  go_wp2_with (go_at_call 71; refine H.out.mono ?_; rintro e w1 ⟨x, rfl, q1, q2, q3⟩; have H1 := Lib.hid (And.intro q2 q3); clear q2 q3)
  go_ret
  exact ⟨x, rfl, q1, H1.out.1, H1.out.2⟩
end
end Go.Proofs.YtggfaalodojjkaaGreatDoor
namespace Go.Proofs.YtggfaalodojjkaaGreatDoor
open Go.RowKit
set_option linter.unusedVariables false
set_option linter.unusedSimpArgs false
section
variable {w w' : World} {f g c N : Nat} {l : List Nat} {fr t R a er m : Nat}
set_option maxHeartbeats 1000000 in
set_option maxRecDepth 100000 in
theorem acx104 (b : Nat) (P : Nat × Nat × Nat) (hP : nuF l t 32 a er = P) (h : XI f g c N l fr t R a er m w) (hm : m < 100000) (hb : w.cell? ⟨b, 0, none⟩ = some (.pointer (some ⟨R, 0, none⟩))) : Calls Tryz.prog 104 #[.pointer (some ⟨b, 0, none⟩)] w (fun e w' => e = .returned (.int .u64 P.1) ∧ XI f g c N l fr t R P.2.1 P.2.2 (m + 11) w' ∧ Fr (FR f c R) w w') := by
  have hPl := nuF_lt l t 32 a er
  have H := Lib.hid (number_x h hm 32)
  unfold XW at H
  rw [hP] at H hPl
  obtain ⟨x, a1, e1⟩ := P
  dsimp only at H hPl ⊢
  clear h hP
  go_enter Tryz.func104, Tryz.ntmps104
  go_wp2_with (go_at_call 71; refine H.out.mono ?_; rintro e w1 ⟨rfl, q2, q3⟩; have H1 := Lib.hid (And.intro q2 q3); clear q2 q3)
  go_ret
  exact ⟨rfl, H1.out.1, H1.out.2⟩
set_option maxHeartbeats 8000000 in
set_option maxRecDepth 100000 in
theorem access_x (h : XI f g c N l fr t R a er m w) (hm : m < 50000) (F : (Nat × Nat × Nat) × Nat × Nat) (hF : acF l t a er = F) : Calls Tryz.prog 72 #[.pointer (some ⟨R, 0, none⟩)] w (fun e w' => e = .returned (.tuple #[.int .i64 F.1.1, .int .u64 F.1.2.1, .int .u64 F.1.2.2]) ∧ XI f g c N l fr t R F.2.1 F.2.2 (m + 33) w' ∧ Fr (FR f c R) w w') := by
  obtain ⟨W, hW⟩ : ∃ W, W = w.alloc (.cells #[.pointer (some ⟨R, 0, none⟩)] 125) := ⟨_, rfl⟩
  obtain ⟨b, hbd⟩ : ∃ b, b = w.heap.size := ⟨_, rfl⟩
  have hf0 : Fr (fun _ => False) w W := by rw [hW]; exact (Fr.refl _ w).alloc _
  have hb1 : Blk W b 125 #[.pointer (some ⟨R, 0, none⟩)] := by rw [hW, hbd]; exact Blk.new w 125 _
  have hRI := h.new hf0
  have HNW : Hid (∀ w1, Fr (FR f c R) W w1 → w1.cell? ⟨b, 0, none⟩ = some (.pointer (some ⟨R, 0, none⟩))) := Lib.hid (fun w1 hf => (hb1.fr hf (by
    have := h.lt
    rintro (e | e | e) <;> omega)).cell 0)
  have z0 : W.cell? ⟨b, 0, none⟩ = some (.pointer (some ⟨R, 0, none⟩)) := hb1.cell 0
  have HW := Lib.hid hW
  have HB := Lib.hid hbd
  have HF0 := Lib.hid hf0
  have HN1 := Lib.hid (number_x hRI (by omega) 32)
  have hx32 := nuF_32 l t a er
  have HNum := Lib.hid (fun W2 a2 e2 (q : XI f g c N l fr t R a2 e2 (m + 22) W2) => number_x q (by omega) 64)
  have HC := Lib.hid (fun W2 a2 e2 P hP (q : XI f g c N l fr t R a2 e2 (m + 11) W2) hb => acx104 b P hP q (by omega) hb)
  unfold XW at HN1 HNum
  have HFE := Lib.hid hF
  unfold acF at HFE
  obtain ⟨⟨x, a1, e1⟩, hP⟩ : ∃ P, nuF l t 32 a er = P := ⟨_, rfl⟩
  rw [hP] at HN1 hx32 HFE
  dsimp only at HN1 hx32 HFE
  clear hW hb1 hRI hf0 h hbd hF hP
  go_enter Tryz.func72, Tryz.ntmps72
  go_upto_region 1 with fail
  rw [← HW.out, ← HB.out]
  go_upto_region 2 with (go_at_call 71; refine HN1.out.mono ?_; rintro e w1 ⟨rfl, q2, q3⟩; have H1 := Lib.hid q2; have F1 := Lib.hid q3; have z1 := HNW.out w1 q3; clear q2 q3 z0)
  by_cases hx : (64 : Int) ≤ (x : Int)
  · by_cases hy : (31 : Int) < (x : Int) - 64
    · go_upto_region 8 with (go_at_call 99; refine (meet_x H1.out 4).mono ?_; rintro e w2 ⟨rfl, p2, p3⟩; have H2 := Lib.hid p2; have F2 := Lib.hid (F1.out.trans p3); have z2 := HNW.out w2 F2.out; clear p2 p3)
      have hac : acE (x - 64) e1 = (mtE e1 4) := by unfold acE; rw [if_pos (by omega)]
      have HFE2 := Lib.hid HFE.out
      rw [if_pos (by omega : 64 ≤ x), hac] at HFE2
      obtain ⟨⟨y, a2, e2⟩, hP2⟩ : ∃ P, nuF l t 32 a1 (mtE e1 4) = P := ⟨_, rfl⟩
      have HP2 := Lib.hid hP2
      have hyl := nuF_lt l t 32 a1 (mtE e1 4)
      rw [hP2] at HFE2 hyl
      dsimp only at HFE2 hyl
      clear hP2
      obtain ⟨⟨v, a3, e3⟩, hP3⟩ : ∃ P, nuF l t 64 a2 e2 = P := ⟨_, rfl⟩
      have hvl := nuF_lt l t 64 a2 e2
      have HNu := Lib.hid (fun W2 => HNum.out W2 a2 e2)
      rw [hP3] at HFE2 hvl
      simp only [hP3] at HNu
      dsimp only at HFE2 hvl
      clear hP3 HNum
      have hFe : F = (((x - 64), y, v), a3, e3) := HFE2.out.symm
      have HFF := Lib.hid hFe
      clear hFe hac HFE2
      refine wp_region_held_drew (S := (fun W => W.cell? ⟨b, 0, none⟩ = some (.pointer (some ⟨R, 0, none⟩)))) (by kernel_rfl) (by exact z2) (fun hHeld => ?_)
      refine wpAnyH_take (i := 0) (oi := ?oi_1) (v := ?_) ?hi_1 (by kernel_rfl) ?hf_1 (by kernel_rfl) ?hQ_1 ?hy_1 (by assumption) ?_
      case hi_1 => simp only [List.getElem?_toArray, List.getElem?_cons_zero, List.getElem?_cons_succ] <;> rfl
      case hf_1 => kernel_rfl
      case hQ_1 => exact fun _ _ _ h => h
      case hy_1 =>
        refine Or.inl ⟨by rfl, ?_⟩
        intro W hSw
        have hq0 := hSw
        go_simp
        try with_reducible rfl
      try simp only [Act.put, List.setIfInBounds_toArray, List.set_cons_zero, List.set_cons_succ]
      refine wpAnyH_take (i := 1) (oi := ?oi_2) (v := ?_) ?hi_2 (by kernel_rfl) ?hf_2 (by kernel_rfl) ?hQ_2 ?hy_2 (by assumption) ?_
      case hi_2 => simp only [List.getElem?_toArray, List.getElem?_cons_zero, List.getElem?_cons_succ] <;> rfl
      case hf_2 => kernel_rfl
      case hQ_2 => exact fun _ _ _ h => h
      case hy_2 =>
        refine Or.inl ⟨by rfl, ?_⟩
        intro W hSw
        have hq0 := hSw
        go_simp
        try with_reducible rfl
      try simp only [Act.put, List.setIfInBounds_toArray, List.set_cons_zero, List.set_cons_succ]
      refine wpAnyH_take (i := 2) (oi := ?oi_3) (v := ?_) ?hi_3 (by kernel_rfl) ?hf_3 (by kernel_rfl) ?hQ_3 ?hy_3 (by assumption) ?_
      case hi_3 => simp only [List.getElem?_toArray, List.getElem?_cons_zero, List.getElem?_cons_succ] <;> rfl
      case hf_3 => kernel_rfl
      case hQ_3 => exact fun _ _ _ h => h
      case hy_3 =>
        refine Or.inl ⟨by rfl, ?_⟩
        intro W hSw
        have hq0 := hSw
        go_simp
        try with_reducible rfl
      try simp only [Act.put, List.setIfInBounds_toArray, List.set_cons_zero, List.set_cons_succ]
      refine wpAnyH_take (i := 4) (oi := ?oi_4) (v := ?_) ?hi_4 (by kernel_rfl) ?hf_4 (by kernel_rfl) ?hQ_4 ?hy_4 (by assumption) ?_
      case hi_4 => simp only [List.getElem?_toArray, List.getElem?_cons_zero, List.getElem?_cons_succ] <;> rfl
      case hf_4 => kernel_rfl
      case hQ_4 => exact fun _ _ _ h => h
      case hy_4 =>
        refine Or.inl ⟨by rfl, ?_⟩
        intro W hSw
        have hq0 := hSw
        go_simp
        try with_reducible rfl
      try simp only [Act.put, List.setIfInBounds_toArray, List.set_cons_zero, List.set_cons_succ]
      refine wpAnyH_ready (rs := [3]) (by kernel_rfl) (by simp) ?_
      refine AllReadyH.cons (o := ?oi_5) ?hi_5 (fun K hK => ?_) AllReadyH.nil
      case hi_5 => simp only [List.getElem?_toArray, List.getElem?_cons_zero, List.getElem?_cons_succ] <;> rfl
      go_simp
      go_at_call 104
      refine (HC.out _ a1 (mtE e1 4) _ HP2.out (H2.out.drewN 1) z2).mono ?_
      rintro e w3 ⟨rfl, y2, y3⟩
      have H3 := Lib.hid y2
      have F3 := Lib.hid (F2.out.trans (Fr.undrewN y3))
      have z3 := HNW.out w3 F3.out
      clear y2 y3
      refine hK.out _ _ z3 (fun hHeld => ?_)
      clear hK K
      try simp only [Act.put, List.setIfInBounds_toArray, List.set_cons_zero, List.set_cons_succ]
      refine wpAnyH_ready (rs := [5]) (by kernel_rfl) (by simp) ?_
      refine AllReadyH.cons (o := ?oi_6) ?hi_6 (fun K hK => ?_) AllReadyH.nil
      case hi_6 => simp only [List.getElem?_toArray, List.getElem?_cons_zero, List.getElem?_cons_succ] <;> rfl
      go_simp
      go_at_call 71
      refine (HNu.out _ (H3.out.more (by omega))).mono ?_
      rintro e w4 ⟨rfl, v2, v3⟩
      have H4 := Lib.hid v2
      have F4 := Lib.hid (Fr.trans F3.out v3)
      have z4 := HNW.out w4 F4.out
      clear v2 v3
      refine hK.out _ _ z4 (fun hHeld => ?_)
      clear hK K
      try simp only [Act.put, List.setIfInBounds_toArray, List.set_cons_zero, List.set_cons_succ]
      refine wpAnyH_take (i := 6) (oi := ?oi_7) (v := ?_) ?hi_7 (by kernel_rfl) ?hf_7 (by kernel_rfl) ?hQ_7 ?hy_7 (by assumption) ?_
      case hi_7 => simp only [List.getElem?_toArray, List.getElem?_cons_zero, List.getElem?_cons_succ] <;> rfl
      case hf_7 => kernel_rfl
      case hQ_7 => exact fun _ _ _ h => h
      case hy_7 =>
        refine Or.inl ⟨by rfl, ?_⟩
        intro W hSw
        have hq0 := hSw
        go_simp
        try with_reducible rfl
      try simp only [Act.put, List.setIfInBounds_toArray, List.set_cons_zero, List.set_cons_succ]
      refine wpAnyH_take (i := 7) (oi := ?oi_8) (v := ?_) ?hi_8 (by kernel_rfl) ?hf_8 (by kernel_rfl) ?hQ_8 ?hy_8 (by assumption) ?_
      case hi_8 => simp only [List.getElem?_toArray, List.getElem?_cons_zero, List.getElem?_cons_succ] <;> rfl
      case hf_8 => kernel_rfl
      case hQ_8 => exact fun _ _ _ h => h
      case hy_8 =>
        refine Or.inl ⟨by rfl, ?_⟩
        intro W hSw
        have hq0 := hSw
        go_simp
        try with_reducible rfl
      try simp only [Act.put, List.setIfInBounds_toArray, List.set_cons_zero, List.set_cons_succ]
      refine wpAnyH_take (i := 8) (oi := ?oi_9) (v := ?_) ?hi_9 (by kernel_rfl) ?hf_9 (by kernel_rfl) ?hQ_9 ?hy_9 (by assumption) ?_
      case hi_9 => simp only [List.getElem?_toArray, List.getElem?_cons_zero, List.getElem?_cons_succ] <;> rfl
      case hf_9 => kernel_rfl
      case hQ_9 => exact fun _ _ _ h => h
      case hy_9 =>
        refine Or.inl ⟨by rfl, ?_⟩
        intro W hSw
        have hq0 := hSw
        go_simp
        try with_reducible rfl
      try simp only [Act.put, List.setIfInBounds_toArray, List.set_cons_zero, List.set_cons_succ]
      refine wpAnyH_done (by kernel_rfl) ?_ _
      clear hHeld
      simp only [Exit.inBlock, Exit.then]
      go_wp2
      go_ret3
      rw [HFF.out]
      refine ⟨?_, H4.out, (HF0.out.more (fun q e => e.elim)).trans F4.out⟩
      have hwr : IntKind.i64.wrap ((x : Int) - 64) = ((x : Int) - 64) := (IntWalk.i64_left _).trans (IntWalk.wrap64_in _ ⟨by omega, by omega⟩)
      have hcast : ((x - 64 : Nat) : Int) = ((x : Int) - 64) := by omega
      show Ending.returned (.tuple #[.int .i64 (IntKind.i64.wrap ((x : Int) - 64)), .int .u64 (y : Int), .int .u64 (v : Int)]) = Ending.returned (.tuple #[.int .i64 ((x - 64 : Nat) : Int), .int .u64 (y : Int), .int .u64 (v : Int)])
      rw [hwr, hcast]
    · go_upto_region 8 with fail
      have hac : acE (x - 64) e1 = e1 := by unfold acE; rw [if_neg (by omega)]
      have HFE2 := Lib.hid HFE.out
      rw [if_pos (by omega : 64 ≤ x), hac] at HFE2
      obtain ⟨⟨y, a2, e2⟩, hP2⟩ : ∃ P, nuF l t 32 a1 e1 = P := ⟨_, rfl⟩
      have HP2 := Lib.hid hP2
      have hyl := nuF_lt l t 32 a1 e1
      rw [hP2] at HFE2 hyl
      dsimp only at HFE2 hyl
      clear hP2
      obtain ⟨⟨v, a3, e3⟩, hP3⟩ : ∃ P, nuF l t 64 a2 e2 = P := ⟨_, rfl⟩
      have hvl := nuF_lt l t 64 a2 e2
      have HNu := Lib.hid (fun W2 => HNum.out W2 a2 e2)
      rw [hP3] at HFE2 hvl
      simp only [hP3] at HNu
      dsimp only at HFE2 hvl
      clear hP3 HNum
      have hFe : F = (((x - 64), y, v), a3, e3) := HFE2.out.symm
      have HFF := Lib.hid hFe
      clear hFe hac HFE2
      refine wp_region_held_drew (S := (fun W => W.cell? ⟨b, 0, none⟩ = some (.pointer (some ⟨R, 0, none⟩)))) (by kernel_rfl) (by exact z1) (fun hHeld => ?_)
      refine wpAnyH_take (i := 0) (oi := ?oi_10) (v := ?_) ?hi_10 (by kernel_rfl) ?hf_10 (by kernel_rfl) ?hQ_10 ?hy_10 (by assumption) ?_
      case hi_10 => simp only [List.getElem?_toArray, List.getElem?_cons_zero, List.getElem?_cons_succ] <;> rfl
      case hf_10 => kernel_rfl
      case hQ_10 => exact fun _ _ _ h => h
      case hy_10 =>
        refine Or.inl ⟨by rfl, ?_⟩
        intro W hSw
        have hq0 := hSw
        go_simp
        try with_reducible rfl
      try simp only [Act.put, List.setIfInBounds_toArray, List.set_cons_zero, List.set_cons_succ]
      refine wpAnyH_take (i := 1) (oi := ?oi_11) (v := ?_) ?hi_11 (by kernel_rfl) ?hf_11 (by kernel_rfl) ?hQ_11 ?hy_11 (by assumption) ?_
      case hi_11 => simp only [List.getElem?_toArray, List.getElem?_cons_zero, List.getElem?_cons_succ] <;> rfl
      case hf_11 => kernel_rfl
      case hQ_11 => exact fun _ _ _ h => h
      case hy_11 =>
        refine Or.inl ⟨by rfl, ?_⟩
        intro W hSw
        have hq0 := hSw
        go_simp
        try with_reducible rfl
      try simp only [Act.put, List.setIfInBounds_toArray, List.set_cons_zero, List.set_cons_succ]
      refine wpAnyH_take (i := 2) (oi := ?oi_12) (v := ?_) ?hi_12 (by kernel_rfl) ?hf_12 (by kernel_rfl) ?hQ_12 ?hy_12 (by assumption) ?_
      case hi_12 => simp only [List.getElem?_toArray, List.getElem?_cons_zero, List.getElem?_cons_succ] <;> rfl
      case hf_12 => kernel_rfl
      case hQ_12 => exact fun _ _ _ h => h
      case hy_12 =>
        refine Or.inl ⟨by rfl, ?_⟩
        intro W hSw
        have hq0 := hSw
        go_simp
        try with_reducible rfl
      try simp only [Act.put, List.setIfInBounds_toArray, List.set_cons_zero, List.set_cons_succ]
      refine wpAnyH_take (i := 4) (oi := ?oi_13) (v := ?_) ?hi_13 (by kernel_rfl) ?hf_13 (by kernel_rfl) ?hQ_13 ?hy_13 (by assumption) ?_
      case hi_13 => simp only [List.getElem?_toArray, List.getElem?_cons_zero, List.getElem?_cons_succ] <;> rfl
      case hf_13 => kernel_rfl
      case hQ_13 => exact fun _ _ _ h => h
      case hy_13 =>
        refine Or.inl ⟨by rfl, ?_⟩
        intro W hSw
        have hq0 := hSw
        go_simp
        try with_reducible rfl
      try simp only [Act.put, List.setIfInBounds_toArray, List.set_cons_zero, List.set_cons_succ]
      refine wpAnyH_ready (rs := [3]) (by kernel_rfl) (by simp) ?_
      refine AllReadyH.cons (o := ?oi_14) ?hi_14 (fun K hK => ?_) AllReadyH.nil
      case hi_14 => simp only [List.getElem?_toArray, List.getElem?_cons_zero, List.getElem?_cons_succ] <;> rfl
      go_simp
      go_at_call 104
      refine (HC.out _ a1 e1 _ HP2.out (H1.out.drewN 1) z1).mono ?_
      rintro e w3 ⟨rfl, y2, y3⟩
      have H3 := Lib.hid y2
      have F3 := Lib.hid (F1.out.trans (Fr.undrewN y3))
      have z3 := HNW.out w3 F3.out
      clear y2 y3
      refine hK.out _ _ z3 (fun hHeld => ?_)
      clear hK K
      try simp only [Act.put, List.setIfInBounds_toArray, List.set_cons_zero, List.set_cons_succ]
      refine wpAnyH_ready (rs := [5]) (by kernel_rfl) (by simp) ?_
      refine AllReadyH.cons (o := ?oi_15) ?hi_15 (fun K hK => ?_) AllReadyH.nil
      case hi_15 => simp only [List.getElem?_toArray, List.getElem?_cons_zero, List.getElem?_cons_succ] <;> rfl
      go_simp
      go_at_call 71
      refine (HNu.out _ (H3.out.more (by omega))).mono ?_
      rintro e w4 ⟨rfl, v2, v3⟩
      have H4 := Lib.hid v2
      have F4 := Lib.hid (Fr.trans F3.out v3)
      have z4 := HNW.out w4 F4.out
      clear v2 v3
      refine hK.out _ _ z4 (fun hHeld => ?_)
      clear hK K
      try simp only [Act.put, List.setIfInBounds_toArray, List.set_cons_zero, List.set_cons_succ]
      refine wpAnyH_take (i := 6) (oi := ?oi_16) (v := ?_) ?hi_16 (by kernel_rfl) ?hf_16 (by kernel_rfl) ?hQ_16 ?hy_16 (by assumption) ?_
      case hi_16 => simp only [List.getElem?_toArray, List.getElem?_cons_zero, List.getElem?_cons_succ] <;> rfl
      case hf_16 => kernel_rfl
      case hQ_16 => exact fun _ _ _ h => h
      case hy_16 =>
        refine Or.inl ⟨by rfl, ?_⟩
        intro W hSw
        have hq0 := hSw
        go_simp
        try with_reducible rfl
      try simp only [Act.put, List.setIfInBounds_toArray, List.set_cons_zero, List.set_cons_succ]
      refine wpAnyH_take (i := 7) (oi := ?oi_17) (v := ?_) ?hi_17 (by kernel_rfl) ?hf_17 (by kernel_rfl) ?hQ_17 ?hy_17 (by assumption) ?_
      case hi_17 => simp only [List.getElem?_toArray, List.getElem?_cons_zero, List.getElem?_cons_succ] <;> rfl
      case hf_17 => kernel_rfl
      case hQ_17 => exact fun _ _ _ h => h
      case hy_17 =>
        refine Or.inl ⟨by rfl, ?_⟩
        intro W hSw
        have hq0 := hSw
        go_simp
        try with_reducible rfl
      try simp only [Act.put, List.setIfInBounds_toArray, List.set_cons_zero, List.set_cons_succ]
      refine wpAnyH_take (i := 8) (oi := ?oi_18) (v := ?_) ?hi_18 (by kernel_rfl) ?hf_18 (by kernel_rfl) ?hQ_18 ?hy_18 (by assumption) ?_
      case hi_18 => simp only [List.getElem?_toArray, List.getElem?_cons_zero, List.getElem?_cons_succ] <;> rfl
      case hf_18 => kernel_rfl
      case hQ_18 => exact fun _ _ _ h => h
      case hy_18 =>
        refine Or.inl ⟨by rfl, ?_⟩
        intro W hSw
        have hq0 := hSw
        go_simp
        try with_reducible rfl
      try simp only [Act.put, List.setIfInBounds_toArray, List.set_cons_zero, List.set_cons_succ]
      refine wpAnyH_done (by kernel_rfl) ?_ _
      clear hHeld
      simp only [Exit.inBlock, Exit.then]
      go_wp2
      go_ret3
      rw [HFF.out]
      refine ⟨?_, H4.out, (HF0.out.more (fun q e => e.elim)).trans F4.out⟩
      have hwr : IntKind.i64.wrap ((x : Int) - 64) = ((x : Int) - 64) := (IntWalk.i64_left _).trans (IntWalk.wrap64_in _ ⟨by omega, by omega⟩)
      have hcast : ((x - 64 : Nat) : Int) = ((x : Int) - 64) := by omega
      show Ending.returned (.tuple #[.int .i64 (IntKind.i64.wrap ((x : Int) - 64)), .int .u64 (y : Int), .int .u64 (v : Int)]) = Ending.returned (.tuple #[.int .i64 ((x - 64 : Nat) : Int), .int .u64 (y : Int), .int .u64 (v : Int)])
      rw [hwr, hcast]
  · by_cases hy : (31 : Int) < (x : Int)
    · go_upto_region 8 with (go_at_call 99; refine (meet_x H1.out 4).mono ?_; rintro e w2 ⟨rfl, p2, p3⟩; have H2 := Lib.hid p2; have F2 := Lib.hid (F1.out.trans p3); have z2 := HNW.out w2 F2.out; clear p2 p3)
      have hac : acE x e1 = (mtE e1 4) := by unfold acE; rw [if_pos (by omega)]
      have HFE2 := Lib.hid HFE.out
      rw [if_neg (by omega : ¬ 64 ≤ x), hac] at HFE2
      obtain ⟨⟨v, a3, e3⟩, hP3⟩ : ∃ P, nuF l t 64 a1 (mtE e1 4) = P := ⟨_, rfl⟩
      have hvl := nuF_lt l t 64 a1 (mtE e1 4)
      have HNu := Lib.hid (fun W2 => HNum.out W2 a1 (mtE e1 4))
      rw [hP3] at HFE2 hvl
      simp only [hP3] at HNu
      dsimp only at HFE2 hvl
      clear hP3 HNum
      have hFe : F = ((x, 0, v), a3, e3) := HFE2.out.symm
      have HFF := Lib.hid hFe
      clear hFe hac HFE2
      refine wp_region_held_drew (S := (fun W => W.cell? ⟨b, 0, none⟩ = some (.pointer (some ⟨R, 0, none⟩)))) (by kernel_rfl) (by exact z2) (fun hHeld => ?_)
      refine wpAnyH_take (i := 0) (oi := ?oi_19) (v := ?_) ?hi_19 (by kernel_rfl) ?hf_19 (by kernel_rfl) ?hQ_19 ?hy_19 (by assumption) ?_
      case hi_19 => simp only [List.getElem?_toArray, List.getElem?_cons_zero, List.getElem?_cons_succ] <;> rfl
      case hf_19 => kernel_rfl
      case hQ_19 => exact fun _ _ _ h => h
      case hy_19 =>
        refine Or.inl ⟨by rfl, ?_⟩
        intro W hSw
        have hq0 := hSw
        go_simp
        try with_reducible rfl
      try simp only [Act.put, List.setIfInBounds_toArray, List.set_cons_zero, List.set_cons_succ]
      refine wpAnyH_take (i := 1) (oi := ?oi_20) (v := ?_) ?hi_20 (by kernel_rfl) ?hf_20 (by kernel_rfl) ?hQ_20 ?hy_20 (by assumption) ?_
      case hi_20 => simp only [List.getElem?_toArray, List.getElem?_cons_zero, List.getElem?_cons_succ] <;> rfl
      case hf_20 => kernel_rfl
      case hQ_20 => exact fun _ _ _ h => h
      case hy_20 =>
        refine Or.inl ⟨by rfl, ?_⟩
        intro W hSw
        have hq0 := hSw
        go_simp
        try with_reducible rfl
      try simp only [Act.put, List.setIfInBounds_toArray, List.set_cons_zero, List.set_cons_succ]
      refine wpAnyH_take (i := 2) (oi := ?oi_21) (v := ?_) ?hi_21 (by kernel_rfl) ?hf_21 (by kernel_rfl) ?hQ_21 ?hy_21 (by assumption) ?_
      case hi_21 => simp only [List.getElem?_toArray, List.getElem?_cons_zero, List.getElem?_cons_succ] <;> rfl
      case hf_21 => kernel_rfl
      case hQ_21 => exact fun _ _ _ h => h
      case hy_21 =>
        refine Or.inl ⟨by rfl, ?_⟩
        intro W hSw
        have hq0 := hSw
        go_simp
        try with_reducible rfl
      try simp only [Act.put, List.setIfInBounds_toArray, List.set_cons_zero, List.set_cons_succ]
      refine wpAnyH_take (i := 4) (oi := ?oi_22) (v := ?_) ?hi_22 (by kernel_rfl) ?hf_22 (by kernel_rfl) ?hQ_22 ?hy_22 (by assumption) ?_
      case hi_22 => simp only [List.getElem?_toArray, List.getElem?_cons_zero, List.getElem?_cons_succ] <;> rfl
      case hf_22 => kernel_rfl
      case hQ_22 => exact fun _ _ _ h => h
      case hy_22 =>
        refine Or.inl ⟨by rfl, ?_⟩
        intro W hSw
        have hq0 := hSw
        go_simp
        try with_reducible rfl
      try simp only [Act.put, List.setIfInBounds_toArray, List.set_cons_zero, List.set_cons_succ]
      refine wpAnyH_ready (rs := [3]) (by kernel_rfl) (by simp) ?_
      refine AllReadyH.cons (o := ?oi_23) ?hi_23 (fun K hK => ?_) AllReadyH.nil
      case hi_23 => simp only [List.getElem?_toArray, List.getElem?_cons_zero, List.getElem?_cons_succ] <;> rfl
      go_simp
      go_at_call 103
      refine (acc103 _).mono ?_
      rintro e w3 ⟨rfl, rfl⟩
      have z3 : (w2.drewN 1).cell? ⟨b, 0, none⟩ = some (.pointer (some ⟨R, 0, none⟩)) := z2
      refine hK.out _ _ z3 (fun hHeld => ?_)
      clear hK K
      try simp only [Act.put, List.setIfInBounds_toArray, List.set_cons_zero, List.set_cons_succ]
      refine wpAnyH_ready (rs := [5]) (by kernel_rfl) (by simp) ?_
      refine AllReadyH.cons (o := ?oi_24) ?hi_24 (fun K hK => ?_) AllReadyH.nil
      case hi_24 => simp only [List.getElem?_toArray, List.getElem?_cons_zero, List.getElem?_cons_succ] <;> rfl
      go_simp
      go_at_call 71
      refine (HNu.out _ ((H2.out.drewN 1).more (by omega))).mono ?_
      rintro e w4 ⟨rfl, v2, v3⟩
      have H4 := Lib.hid v2
      have F4 := Lib.hid (Fr.trans ((F2.out.drewN 1)) v3)
      have z4 := HNW.out w4 F4.out
      clear v2 v3
      refine hK.out _ _ z4 (fun hHeld => ?_)
      clear hK K
      try simp only [Act.put, List.setIfInBounds_toArray, List.set_cons_zero, List.set_cons_succ]
      refine wpAnyH_take (i := 6) (oi := ?oi_25) (v := ?_) ?hi_25 (by kernel_rfl) ?hf_25 (by kernel_rfl) ?hQ_25 ?hy_25 (by assumption) ?_
      case hi_25 => simp only [List.getElem?_toArray, List.getElem?_cons_zero, List.getElem?_cons_succ] <;> rfl
      case hf_25 => kernel_rfl
      case hQ_25 => exact fun _ _ _ h => h
      case hy_25 =>
        refine Or.inl ⟨by rfl, ?_⟩
        intro W hSw
        have hq0 := hSw
        go_simp
        try with_reducible rfl
      try simp only [Act.put, List.setIfInBounds_toArray, List.set_cons_zero, List.set_cons_succ]
      refine wpAnyH_take (i := 7) (oi := ?oi_26) (v := ?_) ?hi_26 (by kernel_rfl) ?hf_26 (by kernel_rfl) ?hQ_26 ?hy_26 (by assumption) ?_
      case hi_26 => simp only [List.getElem?_toArray, List.getElem?_cons_zero, List.getElem?_cons_succ] <;> rfl
      case hf_26 => kernel_rfl
      case hQ_26 => exact fun _ _ _ h => h
      case hy_26 =>
        refine Or.inl ⟨by rfl, ?_⟩
        intro W hSw
        have hq0 := hSw
        go_simp
        try with_reducible rfl
      try simp only [Act.put, List.setIfInBounds_toArray, List.set_cons_zero, List.set_cons_succ]
      refine wpAnyH_take (i := 8) (oi := ?oi_27) (v := ?_) ?hi_27 (by kernel_rfl) ?hf_27 (by kernel_rfl) ?hQ_27 ?hy_27 (by assumption) ?_
      case hi_27 => simp only [List.getElem?_toArray, List.getElem?_cons_zero, List.getElem?_cons_succ] <;> rfl
      case hf_27 => kernel_rfl
      case hQ_27 => exact fun _ _ _ h => h
      case hy_27 =>
        refine Or.inl ⟨by rfl, ?_⟩
        intro W hSw
        have hq0 := hSw
        go_simp
        try with_reducible rfl
      try simp only [Act.put, List.setIfInBounds_toArray, List.set_cons_zero, List.set_cons_succ]
      refine wpAnyH_done (by kernel_rfl) ?_ _
      clear hHeld
      simp only [Exit.inBlock, Exit.then]
      go_wp2
      go_ret3
      rw [HFF.out]
      refine ⟨?_, H4.out, (HF0.out.more (fun q e => e.elim)).trans F4.out⟩
      have hwr : IntKind.i64.wrap (x : Int) = (x : Int) := (IntWalk.i64_left _).trans (IntWalk.wrap64_in _ ⟨by omega, by omega⟩)
      have hcast : ((x : Nat) : Int) = (x : Int) := by omega
      show Ending.returned (.tuple #[.int .i64 (IntKind.i64.wrap (x : Int)), .int .u64 ((0 : Nat) : Int), .int .u64 (v : Int)]) = Ending.returned (.tuple #[.int .i64 ((x : Nat) : Int), .int .u64 ((0 : Nat) : Int), .int .u64 (v : Int)])
      rw [hwr]
    · go_upto_region 8 with fail
      have hac : acE x e1 = e1 := by unfold acE; rw [if_neg (by omega)]
      have HFE2 := Lib.hid HFE.out
      rw [if_neg (by omega : ¬ 64 ≤ x), hac] at HFE2
      obtain ⟨⟨v, a3, e3⟩, hP3⟩ : ∃ P, nuF l t 64 a1 e1 = P := ⟨_, rfl⟩
      have hvl := nuF_lt l t 64 a1 e1
      have HNu := Lib.hid (fun W2 => HNum.out W2 a1 e1)
      rw [hP3] at HFE2 hvl
      simp only [hP3] at HNu
      dsimp only at HFE2 hvl
      clear hP3 HNum
      have hFe : F = ((x, 0, v), a3, e3) := HFE2.out.symm
      have HFF := Lib.hid hFe
      clear hFe hac HFE2
      refine wp_region_held_drew (S := (fun W => W.cell? ⟨b, 0, none⟩ = some (.pointer (some ⟨R, 0, none⟩)))) (by kernel_rfl) (by exact z1) (fun hHeld => ?_)
      refine wpAnyH_take (i := 0) (oi := ?oi_28) (v := ?_) ?hi_28 (by kernel_rfl) ?hf_28 (by kernel_rfl) ?hQ_28 ?hy_28 (by assumption) ?_
      case hi_28 => simp only [List.getElem?_toArray, List.getElem?_cons_zero, List.getElem?_cons_succ] <;> rfl
      case hf_28 => kernel_rfl
      case hQ_28 => exact fun _ _ _ h => h
      case hy_28 =>
        refine Or.inl ⟨by rfl, ?_⟩
        intro W hSw
        have hq0 := hSw
        go_simp
        try with_reducible rfl
      try simp only [Act.put, List.setIfInBounds_toArray, List.set_cons_zero, List.set_cons_succ]
      refine wpAnyH_take (i := 1) (oi := ?oi_29) (v := ?_) ?hi_29 (by kernel_rfl) ?hf_29 (by kernel_rfl) ?hQ_29 ?hy_29 (by assumption) ?_
      case hi_29 => simp only [List.getElem?_toArray, List.getElem?_cons_zero, List.getElem?_cons_succ] <;> rfl
      case hf_29 => kernel_rfl
      case hQ_29 => exact fun _ _ _ h => h
      case hy_29 =>
        refine Or.inl ⟨by rfl, ?_⟩
        intro W hSw
        have hq0 := hSw
        go_simp
        try with_reducible rfl
      try simp only [Act.put, List.setIfInBounds_toArray, List.set_cons_zero, List.set_cons_succ]
      refine wpAnyH_take (i := 2) (oi := ?oi_30) (v := ?_) ?hi_30 (by kernel_rfl) ?hf_30 (by kernel_rfl) ?hQ_30 ?hy_30 (by assumption) ?_
      case hi_30 => simp only [List.getElem?_toArray, List.getElem?_cons_zero, List.getElem?_cons_succ] <;> rfl
      case hf_30 => kernel_rfl
      case hQ_30 => exact fun _ _ _ h => h
      case hy_30 =>
        refine Or.inl ⟨by rfl, ?_⟩
        intro W hSw
        have hq0 := hSw
        go_simp
        try with_reducible rfl
      try simp only [Act.put, List.setIfInBounds_toArray, List.set_cons_zero, List.set_cons_succ]
      refine wpAnyH_take (i := 4) (oi := ?oi_31) (v := ?_) ?hi_31 (by kernel_rfl) ?hf_31 (by kernel_rfl) ?hQ_31 ?hy_31 (by assumption) ?_
      case hi_31 => simp only [List.getElem?_toArray, List.getElem?_cons_zero, List.getElem?_cons_succ] <;> rfl
      case hf_31 => kernel_rfl
      case hQ_31 => exact fun _ _ _ h => h
      case hy_31 =>
        refine Or.inl ⟨by rfl, ?_⟩
        intro W hSw
        have hq0 := hSw
        go_simp
        try with_reducible rfl
      try simp only [Act.put, List.setIfInBounds_toArray, List.set_cons_zero, List.set_cons_succ]
      refine wpAnyH_ready (rs := [3]) (by kernel_rfl) (by simp) ?_
      refine AllReadyH.cons (o := ?oi_32) ?hi_32 (fun K hK => ?_) AllReadyH.nil
      case hi_32 => simp only [List.getElem?_toArray, List.getElem?_cons_zero, List.getElem?_cons_succ] <;> rfl
      go_simp
      go_at_call 103
      refine (acc103 _).mono ?_
      rintro e w3 ⟨rfl, rfl⟩
      have z3 : (w1.drewN 1).cell? ⟨b, 0, none⟩ = some (.pointer (some ⟨R, 0, none⟩)) := z1
      refine hK.out _ _ z3 (fun hHeld => ?_)
      clear hK K
      try simp only [Act.put, List.setIfInBounds_toArray, List.set_cons_zero, List.set_cons_succ]
      refine wpAnyH_ready (rs := [5]) (by kernel_rfl) (by simp) ?_
      refine AllReadyH.cons (o := ?oi_33) ?hi_33 (fun K hK => ?_) AllReadyH.nil
      case hi_33 => simp only [List.getElem?_toArray, List.getElem?_cons_zero, List.getElem?_cons_succ] <;> rfl
      go_simp
      go_at_call 71
      refine (HNu.out _ ((H1.out.drewN 1).more (by omega))).mono ?_
      rintro e w4 ⟨rfl, v2, v3⟩
      have H4 := Lib.hid v2
      have F4 := Lib.hid (Fr.trans ((F1.out.drewN 1)) v3)
      have z4 := HNW.out w4 F4.out
      clear v2 v3
      refine hK.out _ _ z4 (fun hHeld => ?_)
      clear hK K
      try simp only [Act.put, List.setIfInBounds_toArray, List.set_cons_zero, List.set_cons_succ]
      refine wpAnyH_take (i := 6) (oi := ?oi_34) (v := ?_) ?hi_34 (by kernel_rfl) ?hf_34 (by kernel_rfl) ?hQ_34 ?hy_34 (by assumption) ?_
      case hi_34 => simp only [List.getElem?_toArray, List.getElem?_cons_zero, List.getElem?_cons_succ] <;> rfl
      case hf_34 => kernel_rfl
      case hQ_34 => exact fun _ _ _ h => h
      case hy_34 =>
        refine Or.inl ⟨by rfl, ?_⟩
        intro W hSw
        have hq0 := hSw
        go_simp
        try with_reducible rfl
      try simp only [Act.put, List.setIfInBounds_toArray, List.set_cons_zero, List.set_cons_succ]
      refine wpAnyH_take (i := 7) (oi := ?oi_35) (v := ?_) ?hi_35 (by kernel_rfl) ?hf_35 (by kernel_rfl) ?hQ_35 ?hy_35 (by assumption) ?_
      case hi_35 => simp only [List.getElem?_toArray, List.getElem?_cons_zero, List.getElem?_cons_succ] <;> rfl
      case hf_35 => kernel_rfl
      case hQ_35 => exact fun _ _ _ h => h
      case hy_35 =>
        refine Or.inl ⟨by rfl, ?_⟩
        intro W hSw
        have hq0 := hSw
        go_simp
        try with_reducible rfl
      try simp only [Act.put, List.setIfInBounds_toArray, List.set_cons_zero, List.set_cons_succ]
      refine wpAnyH_take (i := 8) (oi := ?oi_36) (v := ?_) ?hi_36 (by kernel_rfl) ?hf_36 (by kernel_rfl) ?hQ_36 ?hy_36 (by assumption) ?_
      case hi_36 => simp only [List.getElem?_toArray, List.getElem?_cons_zero, List.getElem?_cons_succ] <;> rfl
      case hf_36 => kernel_rfl
      case hQ_36 => exact fun _ _ _ h => h
      case hy_36 =>
        refine Or.inl ⟨by rfl, ?_⟩
        intro W hSw
        have hq0 := hSw
        go_simp
        try with_reducible rfl
      try simp only [Act.put, List.setIfInBounds_toArray, List.set_cons_zero, List.set_cons_succ]
      refine wpAnyH_done (by kernel_rfl) ?_ _
      clear hHeld
      simp only [Exit.inBlock, Exit.then]
      go_wp2
      go_ret3
      rw [HFF.out]
      refine ⟨?_, H4.out, (HF0.out.more (fun q e => e.elim)).trans F4.out⟩
      have hwr : IntKind.i64.wrap (x : Int) = (x : Int) := (IntWalk.i64_left _).trans (IntWalk.wrap64_in _ ⟨by omega, by omega⟩)
      have hcast : ((x : Nat) : Int) = (x : Int) := by omega
      show Ending.returned (.tuple #[.int .i64 (IntKind.i64.wrap (x : Int)), .int .u64 ((0 : Nat) : Int), .int .u64 (v : Int)]) = Ending.returned (.tuple #[.int .i64 ((x : Nat) : Int), .int .u64 ((0 : Nat) : Int), .int .u64 (v : Int)])
      rw [hwr]
end
end Go.Proofs.YtggfaalodojjkaaGreatDoor
namespace Go.Proofs.YtggfaalodojjkaaGreatDoor
open Go.RowKit
set_option linter.unusedVariables false
set_option linter.unusedSimpArgs false
def NU (n : Nat) : Value := .int .u64 (n : Int)
theorem lbK_len (l : List Nat) (t : Nat) : ∀ k a er, (lbK l t k a er).1.length = k
  | 0, a, er => rfl
  | k + 1, a, er => by unfold lbK; dsimp only; rw [List.length_append, lbK_len l t k a er]; rfl
section
variable {w w' : World} {f g c N : Nat} {l : List Nat} {fr t R a er m : Nat}
/-- what labels leaves -/
def LX (f g c N : Nat) (l : List Nat) (fr t R m : Nat) (F : List Nat × Nat × Nat) (w : World) (e : Ending) (w' : World) : Prop :=
  ∃ A n cp, e = .returned (.slice A n cp) ∧ n = F.1.length ∧ w'.ownsRow w.heap.size 22 1 (.slice A n cp) n (F.1.map NU) ∧ XI f g c N l fr t R F.2.1 F.2.2 m w' ∧ Fr (FR f c R) w w'
/-- between two rounds of labels -/
structure LRx (w wr : World) (f g c N : Nat) (l : List Nat) (fr t R m : Nat) (F : List Nat × Nat × Nat) (v : Value) (k : Nat) : Prop where
  own : wr.ownsRow w.heap.size 22 1 v k (F.1.map NU)
  ri : XI f g c N l fr t R F.2.1 F.2.2 m wr
  fr_ : Fr (FR f c R) w wr
  lt : f < w.heap.size ∧ g < w.heap.size ∧ c < w.heap.size ∧ R < w.heap.size
theorem LRx.grown {wr w1 w2 : World} {v : Value} {k m' : Nat} {v2 : Value} {F : List Nat × Nat × Nat} {P : Nat × Nat × Nat} (h : LRx w wr f g c N l fr t R m F v k) (h1 : XI f g c N l fr t R P.2.1 P.2.2 m' w1) (h2 : Fr (FR f c R) wr w1) (o : Obj) (hv : w1.ownsRow w.heap.size 22 1 v k (F.1.map NU))
    (ho : w2.ownsRow w.heap.size 22 1 v2 (k + 1) (F.1.map NU ++ [.int .u64 (P.1 : Nat)])) (hg : (w1.alloc o).grownBy w2 v.ownBlock) : LRx w w2 f g c N l fr t R m' (F.1 ++ [P.1], P.2) v2 (k + 1) := by
  obtain ⟨l1, l2, l3, l4⟩ := h.lt
  have hG := Fr.grownV hg
  have hA : Fr (fun _ => False) w1 (w1.alloc o) := (Fr.refl _ w1).alloc o
  refine ⟨by rw [List.map_append]; exact ho, ?_, ?_, h.lt⟩
  · refine (h1.new hA).fr_ hG ?_ ?_ ?_ ?_
    all_goals
      intro e
      have := own_ge hv e
      omega
  · refine ((h.fr_.trans h2).trans (hA.more (fun q e => e.elim))).trans_new hG (fun i e => .inr ?_)
    exact own_ge hv e
set_option maxHeartbeats 4000000 in
set_option maxRecDepth 100000 in
theorem labels_x (h : XI f g c N l fr t R a er m w) (hm : m < 50000) (F : List Nat × Nat × Nat) (hF : lbF l t a er = F) : Calls Tryz.prog 70 #[.pointer (some ⟨R, 0, none⟩)] w (LX f g c N l fr t R (m + 2000) F w) := by
  obtain ⟨i0, hi, hz0, hz1, hz2⟩ := info_parts info22
  have HLT := Lib.hid h.lt
  have HN1 := Lib.hid (number_x h (by omega) 32)
  have HNum := Lib.hid (fun (W2 : World) (a2 e2 m2 : Nat) (q : XI f g c N l fr t R a2 e2 m2 W2) (h2 : m2 < 100000) => number_x q h2 32)
  have HNl := Lib.hid (fun a2 e2 => nuF_lt l t 32 a2 e2)
  have hx32 := nuF_32 l t a er
  unfold LX
  unfold XW at HN1 HNum
  have HFE := Lib.hid hF
  unfold lbF at HFE
  obtain ⟨⟨x, a1, e1⟩, hP⟩ : ∃ P, nuF l t 32 a er = P := ⟨_, rfl⟩
  rw [hP] at HN1 hx32 HFE
  dsimp only at HN1 hx32 HFE
  clear h hF hP
  go_enter Tryz.func70, Tryz.ntmps70
  go_upto_region 2 with (go_at_call 71; refine HN1.out.mono ?_; rintro e w1 ⟨rfl, q2, q3⟩; have H1 := Lib.hid q2; have F1 := Lib.hid q3; clear q2 q3)
  by_cases hx : (100 : Int) < (x : Int)
  · have HF2 : Hid (F = ([], a1, mtE e1 15)) := Lib.hid (by have := HFE.out; rw [if_pos (by omega : 100 < x)] at this; exact this.symm)
    go_wp2_with (go_at_call 99; refine (meet_x H1.out 15).mono ?_; rintro e w2 ⟨rfl, p2, p3⟩; have H2 := Lib.hid p2; have F2 := Lib.hid (F1.out.trans p3); clear p2 p3)
    go_ret
    rw [HF2.out]
    exact ⟨_, _, _, rfl, rfl, World.ownsRow_nil _ _ _ _, H2.out.more (by omega), F2.out⟩
  · have hx1 : x ≤ 100 := by omega
    have HF2 : Hid (F = lbK l t x a1 e1) := Lib.hid (by have := HFE.out; rw [if_neg (by omega : ¬ 100 < x)] at this; exact this.symm)
    have hL0 : Hid (LRx w w1 f g c N l fr t R (m + 11) (lbK l t 0 a1 e1) (.slice none 0 0) 0) := Lib.hid ⟨World.ownsRow_nil _ _ _ _, H1.out, F1.out, HLT.out⟩
    clear HFE
    go_wp2_with fail
    go_loopw [4, 12] (fun v4 v12 wr => ∃ k : Nat, k ≤ x ∧ v12 = .int .u64 k ∧ Hid (LRx w wr f g c N l fr t R (m + 11 + 11 * k) (lbK l t k a1 e1) v4 k)) (fun _ v12 _ => x - (intOf v12).toNat)
    case atStart => exact ⟨0, by omega, rfl, hL0⟩
    case round =>
      obtain ⟨k, hk, rfl, HL⟩ := hrel
      by_cases hlt : k < x
      · have hlb : lbK l t (k + 1) a1 e1 = ((lbK l t k a1 e1).1 ++ [(nuF l t 32 (lbK l t k a1 e1).2.1 (lbK l t k a1 e1).2.2).1], (nuF l t 32 (lbK l t k a1 e1).2.1 (lbK l t k a1 e1).2.2).2) := rfl
        have HLB := Lib.hid hlb
        clear hlb
        generalize lbK l t k a1 e1 = G at HL HLB
        obtain ⟨Ls, a2, e2⟩ := G
        dsimp only at HL HLB
        have HN := Lib.hid (HNum.out wr a2 e2 _ HL.out.ri (by omega))
        have hyl := HNl.out a2 e2
        generalize nuF l t 32 a2 e2 = P at HN hyl HLB
        obtain ⟨y, a3, e3⟩ := P
        dsimp only at HN hyl HLB
        have HO := Lib.hid HL.out.own
        go_wp2_with (first
          | (go_at_call 71; refine HN.out.mono ?_; rintro e w2 ⟨rfl, y2, y3⟩
             have HY := Lib.hid y2
             have FY := Lib.hid y3
             have HO2 := Lib.hid (own_frB HO.out y3 (fun q hq => by
               have := HLT.out
               rintro (e | e | e) <;> omega))
             have hsz : w.heap.size ≤ w2.heap.size := Nat.le_trans HL.out.fr_.size y3.size
             clear y2 y3)
          | (at_builtin; refine wpList_append_own _ rfl (.tmp 14) (.tmp 17) 23 rfl w.heap.size 22 i0 _ 1 8 Tryz.underlying23 hi hz0 hz1 hz2 rfl (by decide) _ k _ rfl (HO2.out.alloc _) ⟨w2.heap.size, 0, none⟩ 1 1 [.int .u64 (y : Nat)] rfl rfl (cell_new _ _ _) ?c2 ?c3 ?c4 ?c5 ?_))
        case c2 => intro u hu; simp at hu; subst hu; rfl
        case c3 => unfold maxLen; omega
        case c4 => omega
        case c5 => simp; omega
        intro v1 w3 hown1 hg1 _
        have HL2 : Hid (LRx w w3 f g c N l fr t R (m + 11 + 11 * k + 11) (lbK l t (k + 1) a1 e1) v1 (k + 1)) := Lib.hid (by
          rw [HLB.out]
          exact HL.out.grown (P := (y, a3, e3)) HY.out FY.out _ HO2.out hown1 hg1)
        clear hown1 hg1
        go_wp2
        go_roundw
        case rel => exact ⟨k + 1, by omega, by go_num, by rw [Nat.mul_add, Nat.mul_one, ← Nat.add_assoc]; exact HL2⟩
        case measure => simp [intOf]; omega
      · obtain rfl : k = x := by omega
        obtain ⟨A, n, cp, rfl⟩ := own_shape HL.out.own
        have hnk : n = k := by
          rcases HL.out.own.2 with ⟨e, h0⟩ | ⟨g9, cap, cur, e, _⟩
          · injection e with e1 e2 e3; omega
          · injection e
        go_wp2
        go_ret
        rw [HF2.out]
        subst hnk
        exact ⟨_, _, _, rfl, (lbK_len l t _ _ _).symm, HL.out.own, HL.out.ri.more (by omega), HL.out.fr_⟩
end
end Go.Proofs.YtggfaalodojjkaaGreatDoor
