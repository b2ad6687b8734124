/-
  Texts of YtggfaalodojjkaaGreatDoorYN.
-/
import Derived.Test.YtggfaalodojjkaaGreatDoorYL
import Derived.Deep.RegionHeld3
import Derived.Test.YtggfaalodojjkaaGreatDoorYM
namespace Go.Proofs.YtggfaalodojjkaaGreatDoor
open Go.RowKit
set_option linter.unusedVariables false
set_option linter.unusedSimpArgs false
set_option maxHeartbeats 8000000 in
set_option maxRecDepth 100000 in
theorem enc18_two (cd a b al : Int) (A : Option Addr) (n c : Nat) (w : World) (hcd : (0 ≤ cd ∧ cd < 252) ∨ (64512 ≤ cd ∧ cd < 100000)) (ha : 0 ≤ a ∧ a < 18446744073709551616) (hb : 0 ≤ b ∧ b < 18446744073709551616) (hfo : formL cd = 5 ∨ formL cd = 10) :
    Calls Tryz.prog 18 #[.agg #[.int .i64 cd, .int .u64 a, .int .u64 b, .int .i64 al, .slice A n c]] w (EnR (headL cd ++ (Leb.enc (Leb.szU a.toNat) a.toNat ++ Leb.enc (Leb.szU b.toNat) b.toNat)) w) := by
  obtain ⟨i0, hi, hz0, hz1, hz2⟩ := info_parts info5
  rw [← List.append_assoc]
  obtain ⟨W0, hW0⟩ : ∃ V, V = w.alloc (.cells #[.int .i64 cd, .int .u64 a, .int .u64 b, .int .i64 al, .slice A n c] 25) := ⟨_, rfl⟩
  obtain ⟨bx, hbx⟩ : ∃ x, x = w.heap.size := ⟨_, rfl⟩
  have hb0 : Below w.heap.size w W0 := by rw [hW0]; exact (Below.refl _ _).alloc (Nat.le_refl _) _
  have hX0 : Blk W0 bx 25 #[.int .i64 cd, .int .u64 a, .int .u64 b, .int .i64 al, .slice A n c] := by rw [hW0, hbx]; exact Blk.new w 25 _
  have HK : Hid (∀ V, Below W0.heap.size W0 V → V.cell? ⟨bx, 0, none⟩ = some (.int .i64 cd) ∧ V.cell? ⟨bx, 1, none⟩ = some (.int .u64 a) ∧ V.cell? ⟨bx, 2, none⟩ = some (.int .u64 b) ∧ V.cell? ⟨bx, 3, none⟩ = some (.int .i64 al) ∧ V.cell? ⟨bx, 4, none⟩ = some (.slice A n c)) := Lib.hid (fun V hV => by
    have h1 := hX0.below hV hX0.lt
    exact ⟨h1.cell 0, h1.cell 1, h1.cell 2, h1.cell 3, h1.cell 4⟩)
  have HB0 := Lib.hid hb0
  have HW0 := Lib.hid hW0
  have HBX := Lib.hid hbx
  obtain ⟨fo, hfl⟩ : ∃ z, z = formL cd := ⟨_, rfl⟩
  have HF := Lib.hid (fun W => RForm_any cd ⟨by omega, by omega⟩ W)
  rw [← hfl] at HF hfo
  have HPa := Lib.hid (fun W => refPut_new (a).toNat W (by omega))
  have hEa : (Leb.enc (Leb.szU (a).toNat) (((a).toNat : Nat) : Int)).length = Leb.szU (a).toNat + 1 := enc_len _ _
  have hExa : ∀ x ∈ Leb.enc (Leb.szU (a).toNat) (((a).toNat : Nat) : Int), x < 256 := Leb.enc_lt _ _
  have hsza := Leb.szU_le 9 (a).toNat (by omega)
  generalize Leb.enc (Leb.szU (a).toNat) (((a).toNat : Nat) : Int) = Ea at HPa hEa hExa ⊢
  generalize Leb.szU (a).toNat = K0a at HPa hEa hsza
  rw [Int.toNat_of_nonneg (by omega)] at HPa
  obtain ⟨Ka, hKa⟩ : ∃ K, K = K0a + 1 := ⟨_, rfl⟩
  rw [← hKa] at HPa hEa
  have hK10a : Ka ≤ 10 ∧ 0 < Ka := by omega
  have HExa := Lib.hid hExa
  have HEa := Lib.hid hEa
  clear hKa hsza hExa hEa
  unfold PutNew at HPa
  have HPb := Lib.hid (fun W => refPut_new (b).toNat W (by omega))
  have hEb : (Leb.enc (Leb.szU (b).toNat) (((b).toNat : Nat) : Int)).length = Leb.szU (b).toNat + 1 := enc_len _ _
  have hExb : ∀ x ∈ Leb.enc (Leb.szU (b).toNat) (((b).toNat : Nat) : Int), x < 256 := Leb.enc_lt _ _
  have hszb := Leb.szU_le 9 (b).toNat (by omega)
  generalize Leb.enc (Leb.szU (b).toNat) (((b).toNat : Nat) : Int) = Eb at HPb hEb hExb ⊢
  generalize Leb.szU (b).toNat = K0b at HPb hEb hszb
  rw [Int.toNat_of_nonneg (by omega)] at HPb
  obtain ⟨Kb, hKb⟩ : ∃ K, K = K0b + 1 := ⟨_, rfl⟩
  rw [← hKb] at HPb hEb
  have hK10b : Kb ≤ 10 ∧ 0 < Kb := by omega
  have HExb := Lib.hid hExb
  have HEb := Lib.hid hEb
  clear hKb hszb hExb hEb
  unfold PutNew at HPb
  have HHL := Lib.hid (headL_lt cd)
  have HHP := Lib.hid (headL_pos cd)
  unfold EnR
  obtain ⟨z0, z1, z2, z3, z4⟩ := HK.out W0 (Below.refl _ _)
  have hss : Hid (W0.heap.size = bx + 1) := Lib.hid (by rw [hW0, hbx]; simp)
  clear hb0 hX0 hW0 hbx hfl
  rcases hcd with hlo | hhi
  · have hl : headL cd = [cd.toNat] := by unfold headL; rw [if_pos (by omega), show cd % 256 = cd by omega]
    have hw : IntKind.u8.wrap cd = cd := by simp only [IntKind.wrap, IntKind.bits, IntKind.signed]; simp; omega
    have hge : ¬ (64512 : Int) ≤ cd := by omega
    go_enter Tryz.func18, Tryz.ntmps18
    go_upto_region 1 with fail
    rw [← HBX.out]
    rw [← HW0.out]
    go_upto_region 2 with fail
    obtain ⟨V, hV1⟩ : ∃ V, V = W0.alloc (.cells #[.int .u8 cd] 5) := ⟨_, rfl⟩
    obtain ⟨g1, hbg⟩ : ∃ z, z = W0.heap.size := ⟨_, rfl⟩
    obtain ⟨c1, hc1⟩ : ∃ z, z = 1 := ⟨_, rfl⟩
    obtain ⟨nh, hnh⟩ : ∃ z, z = 1 := ⟨_, rfl⟩
    have hb1 : Below W0.heap.size W0 V := by rw [hV1]; exact (Below.refl _ _).alloc (Nat.le_refl _) _
    have hG : V.ownsRow W0.heap.size 5 1 (.slice (some ⟨g1, 0, none⟩) nh c1) nh ((headL cd).map U8) := by
      rw [hl, hc1, hnh]
      refine ⟨by simp, .inr ⟨g1, 1, _, rfl, by omega, by rw [hV1, hbg]; exact heap_alloc_new W0 _, Nat.le_refl _, by unfold maxLen; omega, by simp, ?_⟩⟩
      simp [U8]
      omega
    rw [← hV1, ← hbg]
    have hnc1 : (.slice (some ⟨g1, 0, none⟩) 1 1 : Value) = .slice (some ⟨g1, 0, none⟩) nh c1 := by rw [hc1, hnh]
    rw [hnc1]
    have HO1 := Lib.hid hG
    have HB1 := Lib.hid hb1
    obtain ⟨y0, y1, y2, y3, y4⟩ := HK.out V hb1
    have HLn : Hid ((headL cd).length = nh) := Lib.hid (by rw [hl, hnh]; rfl)
    have hnb : nh ≤ 20 ∧ 1 ≤ nh := by omega
    have hnc : nh ≤ c1 ∧ c1 ≤ 9223372036854775807 := by omega
    clear hV1 hG hb1 z0 z1 z2 z3 z4 hbg hl hnc1 hc1 hnh
    go_upto_region 5 with (go_at_call 37; refine (HF.out _).mono ?_; rintro e w1 ⟨rfl, rfl⟩)
    rcases hfo with rfl | rfl
    all_goals
      go_upto_region 22 with fail
      have HVd : Hid (Below V.heap.size V V.drew) := Lib.hid (below_drew (Below.refl _ _))
      have HB1d : Hid (Below W0.heap.size W0 V.drew) := Lib.hid (HB1.out.trans (HVd.out.mono HB1.out.size))
      have HO1d := Lib.hid (own_kept HO1.out HVd.out)
      have hks0 := HK.out _ HB1d.out
      clear y0 y1 y2 y3 y4
      refine wp_region_noPanic ?_
      refine wp_region_held_drew (S := (fun W => W.cell? ⟨bx, 0, none⟩ = some (.int .i64 cd) ∧ W.cell? ⟨bx, 1, none⟩ = some (.int .u64 a) ∧ W.cell? ⟨bx, 2, none⟩ = some (.int .u64 b) ∧ W.cell? ⟨bx, 3, none⟩ = some (.int .i64 al) ∧ W.cell? ⟨bx, 4, none⟩ = some (.slice A n c))) (by kernel_rfl) hks0 (fun hHeld => ?_)
      refine wpAnyH_take (i := 0) (oi := ?oi_5) (v := ?_) ?hi_5 (by kernel_rfl) ?hf_5 (by kernel_rfl) ?hQ_5 ?hy_5 (by assumption) ?_
      case hi_5 => simp only [List.getElem?_toArray, List.getElem?_cons_zero, List.getElem?_cons_succ] <;> rfl
      case hf_5 => kernel_rfl
      case hQ_5 => exact fun _ _ _ h => h
      case hy_5 =>
        refine Or.inl ⟨by rfl, ?_⟩
        intro W hSw
        obtain ⟨q0, q1, q2, q3, q4⟩ := hSw
        go_simp
        try with_reducible rfl
      try simp only [Act.put, List.setIfInBounds_toArray, List.set_cons_zero, List.set_cons_succ]
      refine wpAnyH_take (i := 1) (oi := ?oi_6) (v := ?_) ?hi_6 (by kernel_rfl) ?hf_6 (by kernel_rfl) ?hQ_6 ?hy_6 (by assumption) ?_
      case hi_6 => simp only [List.getElem?_toArray, List.getElem?_cons_zero, List.getElem?_cons_succ] <;> rfl
      case hf_6 => kernel_rfl
      case hQ_6 => exact fun _ _ _ h => h
      case hy_6 =>
        refine Or.inl ⟨by rfl, ?_⟩
        intro W hSw
        obtain ⟨q0, q1, q2, q3, q4⟩ := hSw
        go_simp
        try with_reducible rfl
      try simp only [Act.put, List.setIfInBounds_toArray, List.set_cons_zero, List.set_cons_succ]
      refine wpAnyH_take (i := 2) (oi := ?oi_7) (v := ?_) ?hi_7 (by kernel_rfl) ?hf_7 (by kernel_rfl) ?hQ_7 ?hy_7 (by assumption) ?_
      case hi_7 => simp only [List.getElem?_toArray, List.getElem?_cons_zero, List.getElem?_cons_succ] <;> rfl
      case hf_7 => kernel_rfl
      case hQ_7 => exact fun _ _ _ h => h
      case hy_7 =>
        refine Or.inl ⟨by rfl, ?_⟩
        intro W hSw
        obtain ⟨q0, q1, q2, q3, q4⟩ := hSw
        go_simp
        try with_reducible rfl
      try simp only [Act.put, List.setIfInBounds_toArray, List.set_cons_zero, List.set_cons_succ]
      refine wpAnyH_take (i := 5) (oi := ?oi_8) (v := ?_) ?hi_8 (by kernel_rfl) ?hf_8 (by kernel_rfl) ?hQ_8 ?hy_8 (by assumption) ?_
      case hi_8 => simp only [List.getElem?_toArray, List.getElem?_cons_zero, List.getElem?_cons_succ] <;> rfl
      case hf_8 => kernel_rfl
      case hQ_8 => exact fun _ _ _ h => h
      case hy_8 =>
        refine Or.inl ⟨by rfl, ?_⟩
        intro W hSw
        obtain ⟨q0, q1, q2, q3, q4⟩ := hSw
        go_simp
        try with_reducible rfl
      try simp only [Act.put, List.setIfInBounds_toArray, List.set_cons_zero, List.set_cons_succ]
      refine wpAnyH_take (i := 6) (oi := ?oi_9) (v := ?_) ?hi_9 (by kernel_rfl) ?hf_9 (by kernel_rfl) ?hQ_9 ?hy_9 (by assumption) ?_
      case hi_9 => simp only [List.getElem?_toArray, List.getElem?_cons_zero, List.getElem?_cons_succ] <;> rfl
      case hf_9 => kernel_rfl
      case hQ_9 => exact fun _ _ _ h => h
      case hy_9 =>
        refine Or.inl ⟨by rfl, ?_⟩
        intro W hSw
        obtain ⟨q0, q1, q2, q3, q4⟩ := hSw
        go_simp
        try with_reducible rfl
      try simp only [Act.put, List.setIfInBounds_toArray, List.set_cons_zero, List.set_cons_succ]
      refine wpAnyH_ready (rs := [3]) (by kernel_rfl) (by simp) ?_
      refine AllReadyH.cons (o := ?oi_10_0) ?hi_10_0 (fun K hK => ?_) AllReadyH.nil
      case hi_10_0 => simp only [List.getElem?_toArray, List.getElem?_cons_zero, List.getElem?_cons_succ]; try rfl
      go_simp
      (go_at_call 42
       refine (HPa.out _).mono ?_
       rintro e ua ⟨pa, qa, rfl, hya, hba, hgea⟩
       have HYa := Lib.hid hya
       have hnea : g1 < pa := Nat.lt_of_lt_of_le ((HO1d.out.lt _ rfl).2) hgea
       have HBa : Hid (Below W0.heap.size W0 ua) := Lib.hid (HB1d.out.trans (hba.mono HB1d.out.size))
       have HOa := Lib.hid (own_kept HO1d.out hba)
       have hka := HK.out _ HBa.out
       clear hya hba hgea)
      refine hK.out _ _ hka (fun hHeld => ?_)
      clear hK K
      try simp only [Act.put, List.setIfInBounds_toArray, List.set_cons_zero, List.set_cons_succ]
      refine wpAnyH_ready (rs := [4]) (by kernel_rfl) (by simp) ?_
      refine AllReadyH.cons (o := ?oi_4_0) ?hi_4_0 (fun K hK => ?_) AllReadyH.nil
      case hi_4_0 => simp only [List.getElem?_toArray, List.getElem?_cons_zero, List.getElem?_cons_succ]; try rfl
      obtain ⟨v7, w7, hr, ho7, hg7⟩ := app_by _ W0.heap.size _ Ka _ (some ⟨pa, 0, none⟩) _ _ Ea HOa.out HYa.out (by omega) HBa.out.size (by omega)
      have HB7 : Hid (Below W0.heap.size W0 w7) := Lib.hid (own_below0 HBa.out HOa.out hg7 HBa.out.size)
      obtain ⟨g7, c7, e7, hnc7, hmc7⟩ := own_some ho7 (by omega)
      subst e7
      have HO7 := Lib.hid ho7
      have HX7 := Lib.hid (cat_lt HHL.out HExa.out)
      have HN7 := Lib.hid (len_two HLn.out HEa.out).symm
      have hk7 := HK.out _ HB7.out
      refine step_append_run rfl (.tmp 74) (.tmp 77) 27 rfl _ _ _ w7 rfl rfl hr ?_
      clear hr ho7 hg7
      refine hK.out _ _ hk7 (fun hHeld => ?_)
      clear hK K
      try simp only [Act.put, List.setIfInBounds_toArray, List.set_cons_zero, List.set_cons_succ]
      refine wpAnyH_ready (rs := [7]) (by kernel_rfl) (by simp) ?_
      refine AllReadyH.cons (o := ?oi_3_0) ?hi_3_0 (fun K hK => ?_) AllReadyH.nil
      case hi_3_0 => simp only [List.getElem?_toArray, List.getElem?_cons_zero, List.getElem?_cons_succ]; try rfl
      go_simp
      (go_at_call 42
       refine (HPb.out _).mono ?_
       rintro e ub ⟨pb, qb, rfl, hyb, hbb, hgeb⟩
       have HYb := Lib.hid hyb
       have hneb : g7 < pb := Nat.lt_of_lt_of_le ((HO7.out.lt _ rfl).2) hgeb
       have HBb : Hid (Below W0.heap.size W0 ub) := Lib.hid (HB7.out.trans (hbb.mono HB7.out.size))
       have HOb := Lib.hid (own_kept HO7.out hbb)
       have hkb := HK.out _ HBb.out
       clear hyb hbb hgeb)
      refine hK.out _ _ hkb (fun hHeld => ?_)
      clear hK K
      try simp only [Act.put, List.setIfInBounds_toArray, List.set_cons_zero, List.set_cons_succ]
      refine wpAnyH_ready (rs := [8]) (by kernel_rfl) (by simp) ?_
      refine AllReadyH.cons (o := ?oi_2_0) ?hi_2_0 (fun K hK => ?_) AllReadyH.nil
      case hi_2_0 => simp only [List.getElem?_toArray, List.getElem?_cons_zero, List.getElem?_cons_succ]; try rfl
      obtain ⟨v8, w8, hr, ho8, hg8⟩ := app_by _ W0.heap.size _ Kb _ (some ⟨pb, 0, none⟩) _ _ Eb HOb.out HYb.out (by omega) HBb.out.size (by omega)
      have HB8 : Hid (Below W0.heap.size W0 w8) := Lib.hid (own_below0 HBb.out HOb.out hg8 HBb.out.size)
      have HX8 := Lib.hid (cat_lt HX7.out HExb.out)
      have HN8 := Lib.hid (len_two HN7.out HEb.out)
      have hk8 := HK.out _ HB8.out
      refine step_append_run rfl (.tmp 78) (.tmp 81) 27 rfl _ _ _ w8 rfl rfl hr ?_
      clear hr
      refine hK.out _ _ hk8 (fun hHeld => ?_)
      clear hK K
      try simp only [Act.put, List.setIfInBounds_toArray, List.set_cons_zero, List.set_cons_succ]
      refine wpAnyH_take (i := 9) (oi := ?oi_1) (v := ?_) ?hi_1 (by kernel_rfl) ?hf_1 (by kernel_rfl) ?hQ_1 ?hy_1 (by assumption) ?_
      case hi_1 => simp only [List.getElem?_toArray, List.getElem?_cons_zero, List.getElem?_cons_succ] <;> rfl
      case hf_1 => kernel_rfl
      case hQ_1 => exact fun _ _ _ h => h
      case hy_1 =>
        refine Or.inl ⟨by rfl, ?_⟩
        intro W hSw
        obtain ⟨q0, q1, q2, q3, q4⟩ := hSw
        go_simp
        try with_reducible rfl
      try simp only [Act.put, List.setIfInBounds_toArray, List.set_cons_zero, List.set_cons_succ]
      refine wpAnyH_done (by kernel_rfl) ?_ _
      refine NoPanic.normal ?_
      clear hHeld
      obtain ⟨A8, c8, e8, hy8z⟩ := byt_any ho8 HN8.out.symm HX8.out (by omega)
      subst e8
      have HYz := Lib.hid hy8z
      clear ho8 hg8 hy8z
      go_wp2
      go_ret
      exact ⟨_, _, _, rfl, HYz.out, HN8.out, HB0.out.trans (HB8.out.mono HB0.out.size)⟩
  · have hge : (64512 : Int) ≤ cd := hhi.1
    have HP2 := Lib.hid (fun W => refPut_any (cd - 64512).toNat W (by omega))
    unfold PutPost at HP2
    have hl : headL cd = [252] ++ Leb.enc (Leb.szU (cd - 64512).toNat) (((cd - 64512).toNat : Nat) : Int) := by unfold headL; rw [if_neg (by omega)]; rfl
    have hE2 : (Leb.enc (Leb.szU (cd - 64512).toNat) (((cd - 64512).toNat : Nat) : Int)).length = Leb.szU (cd - 64512).toNat + 1 := enc_len _ _
    have hsz2 := Leb.szU_le 9 (cd - 64512).toNat (by omega)
    generalize Leb.enc (Leb.szU (cd - 64512).toNat) (((cd - 64512).toNat : Nat) : Int) = E2 at HP2 hE2 hl
    generalize Leb.szU (cd - 64512).toNat = K1 at HP2 hE2 hsz2
    rw [Int.toNat_of_nonneg (by omega)] at HP2
    obtain ⟨K2, hK2⟩ : ∃ K, K = K1 + 1 := ⟨_, rfl⟩
    rw [← hK2] at HP2 hE2
    obtain ⟨nh, hnh⟩ : ∃ z, z = 1 + K2 := ⟨_, rfl⟩
    have hnb : nh ≤ 20 ∧ 1 ≤ nh := by omega
    have hk210 : K2 ≤ 10 := by omega
    have HLn : Hid ((headL cd).length = nh) := Lib.hid (by rw [hl, List.length_append, hE2, hnh]; rfl)
    have HNH := Lib.hid hnh
    have HHd := Lib.hid hl
    have HE2 := Lib.hid hE2
    clear hl hK2 hnh hsz2 hE2
    go_enter Tryz.func18, Tryz.ntmps18
    go_upto_region 1 with fail
    rw [← HBX.out]
    rw [← HW0.out]
    go_upto_region 2 with fail
    generalize hV1 : W0.alloc _ = V1
    have hb1 : Below W0.heap.size W0 V1 := by rw [← hV1]; exact (Below.refl _ _).alloc (Nat.le_refl _) _
    obtain ⟨y0, y1, y2, y3, y4⟩ := HK.out V1 hb1
    have HB1' := Lib.hid hb1
    clear hV1 hb1 z0 z1 z2 z3 z4
    have y9 : (V1.alloc (.cells #[.int .u8 252] 5)).cell? ⟨bx, 0, none⟩ = some (.int .i64 cd) := (HK.out _ (HB1'.out.alloc HB1'.out.size _)).1
    go_upto_region 4 with (first
      | (go_at_call 42; (with_reducible refine (HP2.out _).mono ?_); rintro e w2 ⟨g2, c2, rfl, hy2, hb2⟩
         have HYh := Lib.hid hy2
         have HOh : Hid (w2.ownsRow W0.heap.size 5 1 (.slice (some ⟨V1.heap.size, 0, none⟩) 1 1) 1 ([252].map U8)) := Lib.hid (own_kept ⟨by simp, .inr ⟨V1.heap.size, 1, _, rfl, HB1'.out.size, heap_alloc_new V1 _, Nat.le_refl _, by unfold maxLen; omega, by simp, by simp [U8]⟩⟩ hb2)
         have HBh := Lib.hid ((HB1'.out.alloc HB1'.out.size _).trans (hb2.mono (HB1'.out.alloc HB1'.out.size _).size))
         clear hy2 hb2)
      | (at_builtin; refine wpList_append_own _ rfl (.tmp 13) (.tmp 18) 27 rfl W0.heap.size 5 i0 _ 1 1 Tryz.underlying27 hi hz0 hz1 hz2 rfl (by decide) _ 1 _ rfl HOh.out ⟨g2, 0, none⟩ K2 c2 (E2.map U8) rfl (by simp [HE2.out]) (u8cells HYh.out) ?d1 ?d2 ?d3 ?d4 ?_))
    case d1 => intro u hu; rw [List.mem_map] at hu; obtain ⟨_, _, rfl⟩ := hu; rfl
    case d2 => unfold maxLen; omega
    case d3 => have := HYh.out.2.2.1; omega
    case d4 => exact HBh.out.size
    intro v5 V ho5 hg5 _
    replace ho5 : V.ownsRow W0.heap.size 5 1 v5 nh ((headL cd).map U8) := by rw [HHd.out, List.map_append, HNH.out]; exact ho5
    have HB1 : Hid (Below W0.heap.size W0 V) := Lib.hid (own_below0 HBh.out HOh.out hg5 HBh.out.size)
    obtain ⟨g1, c1, e5, hnc, hmc⟩ := own_some ho5 (by omega)
    subst e5
    have HO1 := Lib.hid ho5
    unfold maxLen at hmc
    have hnc : nh ≤ c1 ∧ c1 ≤ 9223372036854775807 := ⟨hnc, by omega⟩
    clear ho5 hg5 y0 y1 y2 y3 y4 y9 hmc
    obtain ⟨y0, y1, y2, y3, y4⟩ := HK.out V HB1.out
    clear HP2
    go_upto_region 4 with fail
    go_upto_region 5 with (go_at_call 37; refine (HF.out _).mono ?_; rintro e w1 ⟨rfl, rfl⟩)
    rcases hfo with rfl | rfl
    all_goals
      go_upto_region 22 with fail
      have HVd : Hid (Below V.heap.size V V.drew) := Lib.hid (below_drew (Below.refl _ _))
      have HB1d : Hid (Below W0.heap.size W0 V.drew) := Lib.hid (HB1.out.trans (HVd.out.mono HB1.out.size))
      have HO1d := Lib.hid (own_kept HO1.out HVd.out)
      have hks0 := HK.out _ HB1d.out
      clear y0 y1 y2 y3 y4
      refine wp_region_noPanic ?_
      refine wp_region_held_drew (S := (fun W => W.cell? ⟨bx, 0, none⟩ = some (.int .i64 cd) ∧ W.cell? ⟨bx, 1, none⟩ = some (.int .u64 a) ∧ W.cell? ⟨bx, 2, none⟩ = some (.int .u64 b) ∧ W.cell? ⟨bx, 3, none⟩ = some (.int .i64 al) ∧ W.cell? ⟨bx, 4, none⟩ = some (.slice A n c))) (by kernel_rfl) hks0 (fun hHeld => ?_)
      refine wpAnyH_take (i := 0) (oi := ?oi_5) (v := ?_) ?hi_5 (by kernel_rfl) ?hf_5 (by kernel_rfl) ?hQ_5 ?hy_5 (by assumption) ?_
      case hi_5 => simp only [List.getElem?_toArray, List.getElem?_cons_zero, List.getElem?_cons_succ] <;> rfl
      case hf_5 => kernel_rfl
      case hQ_5 => exact fun _ _ _ h => h
      case hy_5 =>
        refine Or.inl ⟨by rfl, ?_⟩
        intro W hSw
        obtain ⟨q0, q1, q2, q3, q4⟩ := hSw
        go_simp
        try with_reducible rfl
      try simp only [Act.put, List.setIfInBounds_toArray, List.set_cons_zero, List.set_cons_succ]
      refine wpAnyH_take (i := 1) (oi := ?oi_6) (v := ?_) ?hi_6 (by kernel_rfl) ?hf_6 (by kernel_rfl) ?hQ_6 ?hy_6 (by assumption) ?_
      case hi_6 => simp only [List.getElem?_toArray, List.getElem?_cons_zero, List.getElem?_cons_succ] <;> rfl
      case hf_6 => kernel_rfl
      case hQ_6 => exact fun _ _ _ h => h
      case hy_6 =>
        refine Or.inl ⟨by rfl, ?_⟩
        intro W hSw
        obtain ⟨q0, q1, q2, q3, q4⟩ := hSw
        go_simp
        try with_reducible rfl
      try simp only [Act.put, List.setIfInBounds_toArray, List.set_cons_zero, List.set_cons_succ]
      refine wpAnyH_take (i := 2) (oi := ?oi_7) (v := ?_) ?hi_7 (by kernel_rfl) ?hf_7 (by kernel_rfl) ?hQ_7 ?hy_7 (by assumption) ?_
      case hi_7 => simp only [List.getElem?_toArray, List.getElem?_cons_zero, List.getElem?_cons_succ] <;> rfl
      case hf_7 => kernel_rfl
      case hQ_7 => exact fun _ _ _ h => h
      case hy_7 =>
        refine Or.inl ⟨by rfl, ?_⟩
        intro W hSw
        obtain ⟨q0, q1, q2, q3, q4⟩ := hSw
        go_simp
        try with_reducible rfl
      try simp only [Act.put, List.setIfInBounds_toArray, List.set_cons_zero, List.set_cons_succ]
      refine wpAnyH_take (i := 5) (oi := ?oi_8) (v := ?_) ?hi_8 (by kernel_rfl) ?hf_8 (by kernel_rfl) ?hQ_8 ?hy_8 (by assumption) ?_
      case hi_8 => simp only [List.getElem?_toArray, List.getElem?_cons_zero, List.getElem?_cons_succ] <;> rfl
      case hf_8 => kernel_rfl
      case hQ_8 => exact fun _ _ _ h => h
      case hy_8 =>
        refine Or.inl ⟨by rfl, ?_⟩
        intro W hSw
        obtain ⟨q0, q1, q2, q3, q4⟩ := hSw
        go_simp
        try with_reducible rfl
      try simp only [Act.put, List.setIfInBounds_toArray, List.set_cons_zero, List.set_cons_succ]
      refine wpAnyH_take (i := 6) (oi := ?oi_9) (v := ?_) ?hi_9 (by kernel_rfl) ?hf_9 (by kernel_rfl) ?hQ_9 ?hy_9 (by assumption) ?_
      case hi_9 => simp only [List.getElem?_toArray, List.getElem?_cons_zero, List.getElem?_cons_succ] <;> rfl
      case hf_9 => kernel_rfl
      case hQ_9 => exact fun _ _ _ h => h
      case hy_9 =>
        refine Or.inl ⟨by rfl, ?_⟩
        intro W hSw
        obtain ⟨q0, q1, q2, q3, q4⟩ := hSw
        go_simp
        try with_reducible rfl
      try simp only [Act.put, List.setIfInBounds_toArray, List.set_cons_zero, List.set_cons_succ]
      refine wpAnyH_ready (rs := [3]) (by kernel_rfl) (by simp) ?_
      refine AllReadyH.cons (o := ?oi_10_0) ?hi_10_0 (fun K hK => ?_) AllReadyH.nil
      case hi_10_0 => simp only [List.getElem?_toArray, List.getElem?_cons_zero, List.getElem?_cons_succ]; try rfl
      go_simp
      (go_at_call 42
       refine (HPa.out _).mono ?_
       rintro e ua ⟨pa, qa, rfl, hya, hba, hgea⟩
       have HYa := Lib.hid hya
       have hnea : g1 < pa := Nat.lt_of_lt_of_le ((HO1d.out.lt _ rfl).2) hgea
       have HBa : Hid (Below W0.heap.size W0 ua) := Lib.hid (HB1d.out.trans (hba.mono HB1d.out.size))
       have HOa := Lib.hid (own_kept HO1d.out hba)
       have hka := HK.out _ HBa.out
       clear hya hba hgea)
      refine hK.out _ _ hka (fun hHeld => ?_)
      clear hK K
      try simp only [Act.put, List.setIfInBounds_toArray, List.set_cons_zero, List.set_cons_succ]
      refine wpAnyH_ready (rs := [4]) (by kernel_rfl) (by simp) ?_
      refine AllReadyH.cons (o := ?oi_4_0) ?hi_4_0 (fun K hK => ?_) AllReadyH.nil
      case hi_4_0 => simp only [List.getElem?_toArray, List.getElem?_cons_zero, List.getElem?_cons_succ]; try rfl
      obtain ⟨v7, w7, hr, ho7, hg7⟩ := app_by _ W0.heap.size _ Ka _ (some ⟨pa, 0, none⟩) _ _ Ea HOa.out HYa.out (by omega) HBa.out.size (by omega)
      have HB7 : Hid (Below W0.heap.size W0 w7) := Lib.hid (own_below0 HBa.out HOa.out hg7 HBa.out.size)
      obtain ⟨g7, c7, e7, hnc7, hmc7⟩ := own_some ho7 (by omega)
      subst e7
      have HO7 := Lib.hid ho7
      have HX7 := Lib.hid (cat_lt HHL.out HExa.out)
      have HN7 := Lib.hid (len_two HLn.out HEa.out).symm
      have hk7 := HK.out _ HB7.out
      refine step_append_run rfl (.tmp 74) (.tmp 77) 27 rfl _ _ _ w7 rfl rfl hr ?_
      clear hr ho7 hg7
      refine hK.out _ _ hk7 (fun hHeld => ?_)
      clear hK K
      try simp only [Act.put, List.setIfInBounds_toArray, List.set_cons_zero, List.set_cons_succ]
      refine wpAnyH_ready (rs := [7]) (by kernel_rfl) (by simp) ?_
      refine AllReadyH.cons (o := ?oi_3_0) ?hi_3_0 (fun K hK => ?_) AllReadyH.nil
      case hi_3_0 => simp only [List.getElem?_toArray, List.getElem?_cons_zero, List.getElem?_cons_succ]; try rfl
      go_simp
      (go_at_call 42
       refine (HPb.out _).mono ?_
       rintro e ub ⟨pb, qb, rfl, hyb, hbb, hgeb⟩
       have HYb := Lib.hid hyb
       have hneb : g7 < pb := Nat.lt_of_lt_of_le ((HO7.out.lt _ rfl).2) hgeb
       have HBb : Hid (Below W0.heap.size W0 ub) := Lib.hid (HB7.out.trans (hbb.mono HB7.out.size))
       have HOb := Lib.hid (own_kept HO7.out hbb)
       have hkb := HK.out _ HBb.out
       clear hyb hbb hgeb)
      refine hK.out _ _ hkb (fun hHeld => ?_)
      clear hK K
      try simp only [Act.put, List.setIfInBounds_toArray, List.set_cons_zero, List.set_cons_succ]
      refine wpAnyH_ready (rs := [8]) (by kernel_rfl) (by simp) ?_
      refine AllReadyH.cons (o := ?oi_2_0) ?hi_2_0 (fun K hK => ?_) AllReadyH.nil
      case hi_2_0 => simp only [List.getElem?_toArray, List.getElem?_cons_zero, List.getElem?_cons_succ]; try rfl
      obtain ⟨v8, w8, hr, ho8, hg8⟩ := app_by _ W0.heap.size _ Kb _ (some ⟨pb, 0, none⟩) _ _ Eb HOb.out HYb.out (by omega) HBb.out.size (by omega)
      have HB8 : Hid (Below W0.heap.size W0 w8) := Lib.hid (own_below0 HBb.out HOb.out hg8 HBb.out.size)
      have HX8 := Lib.hid (cat_lt HX7.out HExb.out)
      have HN8 := Lib.hid (len_two HN7.out HEb.out)
      have hk8 := HK.out _ HB8.out
      refine step_append_run rfl (.tmp 78) (.tmp 81) 27 rfl _ _ _ w8 rfl rfl hr ?_
      clear hr
      refine hK.out _ _ hk8 (fun hHeld => ?_)
      clear hK K
      try simp only [Act.put, List.setIfInBounds_toArray, List.set_cons_zero, List.set_cons_succ]
      refine wpAnyH_take (i := 9) (oi := ?oi_1) (v := ?_) ?hi_1 (by kernel_rfl) ?hf_1 (by kernel_rfl) ?hQ_1 ?hy_1 (by assumption) ?_
      case hi_1 => simp only [List.getElem?_toArray, List.getElem?_cons_zero, List.getElem?_cons_succ] <;> rfl
      case hf_1 => kernel_rfl
      case hQ_1 => exact fun _ _ _ h => h
      case hy_1 =>
        refine Or.inl ⟨by rfl, ?_⟩
        intro W hSw
        obtain ⟨q0, q1, q2, q3, q4⟩ := hSw
        go_simp
        try with_reducible rfl
      try simp only [Act.put, List.setIfInBounds_toArray, List.set_cons_zero, List.set_cons_succ]
      refine wpAnyH_done (by kernel_rfl) ?_ _
      refine NoPanic.normal ?_
      clear hHeld
      obtain ⟨A8, c8, e8, hy8z⟩ := byt_any ho8 HN8.out.symm HX8.out (by omega)
      subst e8
      have HYz := Lib.hid hy8z
      clear ho8 hg8 hy8z
      go_wp2
      go_ret
      exact ⟨_, _, _, rfl, HYz.out, HN8.out, HB0.out.trans (HB8.out.mono HB0.out.size)⟩
end Go.Proofs.YtggfaalodojjkaaGreatDoor
namespace Go.Proofs.YtggfaalodojjkaaGreatDoor
open Go.RowKit
set_option linter.unusedVariables false
set_option linter.unusedSimpArgs false
set_option maxHeartbeats 8000000 in
set_option maxRecDepth 100000 in
theorem enc18_mem (cd a b al : Int) (A : Option Addr) (n c : Nat) (w : World) (hcd : (0 ≤ cd ∧ cd < 252) ∨ (64512 ≤ cd ∧ cd < 100000)) (ha : 0 ≤ a ∧ a < 18446744073709551616) (hb : 0 ≤ b ∧ b < 18446744073709551616) (hal : 0 ≤ al ∧ al ≤ 31) (hfo : formL cd = 8) (ha0 : a ≠ 0) :
    Calls Tryz.prog 18 #[.agg #[.int .i64 cd, .int .u64 a, .int .u64 b, .int .i64 al, .slice A n c]] w (EnR (headL cd ++ (Leb.enc (Leb.szU (64 + al).toNat) (64 + al).toNat ++ (Leb.enc (Leb.szU a.toNat) a.toNat ++ Leb.enc (Leb.szU b.toNat) b.toNat))) w) := by
  obtain ⟨i0, hi, hz0, hz1, hz2⟩ := info_parts info5
  rw [← List.append_assoc]
  rw [← List.append_assoc]
  obtain ⟨W0, hW0⟩ : ∃ V, V = w.alloc (.cells #[.int .i64 cd, .int .u64 a, .int .u64 b, .int .i64 al, .slice A n c] 25) := ⟨_, rfl⟩
  obtain ⟨bx, hbx⟩ : ∃ x, x = w.heap.size := ⟨_, rfl⟩
  have hb0 : Below w.heap.size w W0 := by rw [hW0]; exact (Below.refl _ _).alloc (Nat.le_refl _) _
  have hX0 : Blk W0 bx 25 #[.int .i64 cd, .int .u64 a, .int .u64 b, .int .i64 al, .slice A n c] := by rw [hW0, hbx]; exact Blk.new w 25 _
  have HK : Hid (∀ V, Below W0.heap.size W0 V → V.cell? ⟨bx, 0, none⟩ = some (.int .i64 cd) ∧ V.cell? ⟨bx, 1, none⟩ = some (.int .u64 a) ∧ V.cell? ⟨bx, 2, none⟩ = some (.int .u64 b) ∧ V.cell? ⟨bx, 3, none⟩ = some (.int .i64 al) ∧ V.cell? ⟨bx, 4, none⟩ = some (.slice A n c)) := Lib.hid (fun V hV => by
    have h1 := hX0.below hV hX0.lt
    exact ⟨h1.cell 0, h1.cell 1, h1.cell 2, h1.cell 3, h1.cell 4⟩)
  have HB0 := Lib.hid hb0
  have HW0 := Lib.hid hW0
  have HBX := Lib.hid hbx
  obtain ⟨fo, hfl⟩ : ∃ z, z = formL cd := ⟨_, rfl⟩
  have HF := Lib.hid (fun W => RForm_any cd ⟨by omega, by omega⟩ W)
  rw [← hfl] at HF hfo
  have HPl := Lib.hid (fun W => refPut_new (64 + al).toNat W (by omega))
  have hEl : (Leb.enc (Leb.szU (64 + al).toNat) (((64 + al).toNat : Nat) : Int)).length = Leb.szU (64 + al).toNat + 1 := enc_len _ _
  have hExl : ∀ x ∈ Leb.enc (Leb.szU (64 + al).toNat) (((64 + al).toNat : Nat) : Int), x < 256 := Leb.enc_lt _ _
  have hszl := Leb.szU_le 9 (64 + al).toNat (by omega)
  generalize Leb.enc (Leb.szU (64 + al).toNat) (((64 + al).toNat : Nat) : Int) = El at HPl hEl hExl ⊢
  generalize Leb.szU (64 + al).toNat = K0l at HPl hEl hszl
  rw [Int.toNat_of_nonneg (by omega)] at HPl
  obtain ⟨Kl, hKl⟩ : ∃ K, K = K0l + 1 := ⟨_, rfl⟩
  rw [← hKl] at HPl hEl
  have hK10l : Kl ≤ 10 ∧ 0 < Kl := by omega
  have HExl := Lib.hid hExl
  have HEl := Lib.hid hEl
  clear hKl hszl hExl hEl
  unfold PutNew at HPl
  have HPa := Lib.hid (fun W => refPut_new (a).toNat W (by omega))
  have hEa : (Leb.enc (Leb.szU (a).toNat) (((a).toNat : Nat) : Int)).length = Leb.szU (a).toNat + 1 := enc_len _ _
  have hExa : ∀ x ∈ Leb.enc (Leb.szU (a).toNat) (((a).toNat : Nat) : Int), x < 256 := Leb.enc_lt _ _
  have hsza := Leb.szU_le 9 (a).toNat (by omega)
  generalize Leb.enc (Leb.szU (a).toNat) (((a).toNat : Nat) : Int) = Ea at HPa hEa hExa ⊢
  generalize Leb.szU (a).toNat = K0a at HPa hEa hsza
  rw [Int.toNat_of_nonneg (by omega)] at HPa
  obtain ⟨Ka, hKa⟩ : ∃ K, K = K0a + 1 := ⟨_, rfl⟩
  rw [← hKa] at HPa hEa
  have hK10a : Ka ≤ 10 ∧ 0 < Ka := by omega
  have HExa := Lib.hid hExa
  have HEa := Lib.hid hEa
  clear hKa hsza hExa hEa
  unfold PutNew at HPa
  have HPb := Lib.hid (fun W => refPut_new (b).toNat W (by omega))
  have hEb : (Leb.enc (Leb.szU (b).toNat) (((b).toNat : Nat) : Int)).length = Leb.szU (b).toNat + 1 := enc_len _ _
  have hExb : ∀ x ∈ Leb.enc (Leb.szU (b).toNat) (((b).toNat : Nat) : Int), x < 256 := Leb.enc_lt _ _
  have hszb := Leb.szU_le 9 (b).toNat (by omega)
  generalize Leb.enc (Leb.szU (b).toNat) (((b).toNat : Nat) : Int) = Eb at HPb hEb hExb ⊢
  generalize Leb.szU (b).toNat = K0b at HPb hEb hszb
  rw [Int.toNat_of_nonneg (by omega)] at HPb
  obtain ⟨Kb, hKb⟩ : ∃ K, K = K0b + 1 := ⟨_, rfl⟩
  rw [← hKb] at HPb hEb
  have hK10b : Kb ≤ 10 ∧ 0 < Kb := by omega
  have HExb := Lib.hid hExb
  have HEb := Lib.hid hEb
  clear hKb hszb hExb hEb
  unfold PutNew at HPb
  have hwal : IntKind.u64.wrap al = al := by rw [IntKind.wrap_u64]; omega
  have hwal2 : IntKind.u64.wrap (al + 64) = 64 + al := by rw [IntKind.wrap_u64]; omega
  have HHL := Lib.hid (headL_lt cd)
  have HHP := Lib.hid (headL_pos cd)
  unfold EnR
  obtain ⟨z0, z1, z2, z3, z4⟩ := HK.out W0 (Below.refl _ _)
  have hss : Hid (W0.heap.size = bx + 1) := Lib.hid (by rw [hW0, hbx]; simp)
  clear hb0 hX0 hW0 hbx hfl
  rcases hcd with hlo | hhi
  · have hl : headL cd = [cd.toNat] := by unfold headL; rw [if_pos (by omega), show cd % 256 = cd by omega]
    have hw : IntKind.u8.wrap cd = cd := by simp only [IntKind.wrap, IntKind.bits, IntKind.signed]; simp; omega
    have hge : ¬ (64512 : Int) ≤ cd := by omega
    go_enter Tryz.func18, Tryz.ntmps18
    go_upto_region 1 with fail
    rw [← HBX.out]
    rw [← HW0.out]
    go_upto_region 2 with fail
    obtain ⟨V, hV1⟩ : ∃ V, V = W0.alloc (.cells #[.int .u8 cd] 5) := ⟨_, rfl⟩
    obtain ⟨g1, hbg⟩ : ∃ z, z = W0.heap.size := ⟨_, rfl⟩
    obtain ⟨c1, hc1⟩ : ∃ z, z = 1 := ⟨_, rfl⟩
    obtain ⟨nh, hnh⟩ : ∃ z, z = 1 := ⟨_, rfl⟩
    have hb1 : Below W0.heap.size W0 V := by rw [hV1]; exact (Below.refl _ _).alloc (Nat.le_refl _) _
    have hG : V.ownsRow W0.heap.size 5 1 (.slice (some ⟨g1, 0, none⟩) nh c1) nh ((headL cd).map U8) := by
      rw [hl, hc1, hnh]
      refine ⟨by simp, .inr ⟨g1, 1, _, rfl, by omega, by rw [hV1, hbg]; exact heap_alloc_new W0 _, Nat.le_refl _, by unfold maxLen; omega, by simp, ?_⟩⟩
      simp [U8]
      omega
    rw [← hV1, ← hbg]
    have hnc1 : (.slice (some ⟨g1, 0, none⟩) 1 1 : Value) = .slice (some ⟨g1, 0, none⟩) nh c1 := by rw [hc1, hnh]
    rw [hnc1]
    have HO1 := Lib.hid hG
    have HB1 := Lib.hid hb1
    obtain ⟨y0, y1, y2, y3, y4⟩ := HK.out V hb1
    have HLn : Hid ((headL cd).length = nh) := Lib.hid (by rw [hl, hnh]; rfl)
    have hnb : nh ≤ 20 ∧ 1 ≤ nh := by omega
    have hnc : nh ≤ c1 ∧ c1 ≤ 9223372036854775807 := by omega
    clear hV1 hG hb1 z0 z1 z2 z3 z4 hbg hl hnc1 hc1 hnh
    go_upto_region 5 with (go_at_call 37; refine (HF.out _).mono ?_; rintro e w1 ⟨rfl, rfl⟩)
    subst hfo
    have hne : (a == 0) = false := by simpa using ha0
    go_upto_region 26 with fail
    have HVd : Hid (Below V.heap.size V V.drew) := Lib.hid (below_drew (Below.refl _ _))
    have HB1d : Hid (Below W0.heap.size W0 V.drew) := Lib.hid (HB1.out.trans (HVd.out.mono HB1.out.size))
    have HO1d := Lib.hid (own_kept HO1.out HVd.out)
    have hks0 := HK.out _ HB1d.out
    clear y0 y1 y2 y3 y4
    refine wp_region_noPanic ?_
    refine wp_region_held_drew (S := (fun W => W.cell? ⟨bx, 0, none⟩ = some (.int .i64 cd) ∧ W.cell? ⟨bx, 1, none⟩ = some (.int .u64 a) ∧ W.cell? ⟨bx, 2, none⟩ = some (.int .u64 b) ∧ W.cell? ⟨bx, 3, none⟩ = some (.int .i64 al) ∧ W.cell? ⟨bx, 4, none⟩ = some (.slice A n c))) (by kernel_rfl) hks0 (fun hHeld => ?_)
    refine wpAnyH_take (i := 0) (oi := ?oi_15) (v := ?_) ?hi_15 (by kernel_rfl) ?hf_15 (by kernel_rfl) ?hQ_15 ?hy_15 (by assumption) ?_
    case hi_15 => simp only [List.getElem?_toArray, List.getElem?_cons_zero, List.getElem?_cons_succ] <;> rfl
    case hf_15 => kernel_rfl
    case hQ_15 => exact fun _ _ _ h => h
    case hy_15 =>
      refine Or.inl ⟨by rfl, ?_⟩
      intro W hSw
      obtain ⟨q0, q1, q2, q3, q4⟩ := hSw
      go_simp
      try with_reducible rfl
    try simp only [Act.put, List.setIfInBounds_toArray, List.set_cons_zero, List.set_cons_succ]
    refine wpAnyH_take (i := 1) (oi := ?oi_16) (v := ?_) ?hi_16 (by kernel_rfl) ?hf_16 (by kernel_rfl) ?hQ_16 ?hy_16 (by assumption) ?_
    case hi_16 => simp only [List.getElem?_toArray, List.getElem?_cons_zero, List.getElem?_cons_succ] <;> rfl
    case hf_16 => kernel_rfl
    case hQ_16 => exact fun _ _ _ h => h
    case hy_16 =>
      refine Or.inl ⟨by rfl, ?_⟩
      intro W hSw
      obtain ⟨q0, q1, q2, q3, q4⟩ := hSw
      go_simp
      try with_reducible rfl
    try simp only [Act.put, List.setIfInBounds_toArray, List.set_cons_zero, List.set_cons_succ]
    refine wpAnyH_take (i := 2) (oi := ?oi_17) (v := ?_) ?hi_17 (by kernel_rfl) ?hf_17 (by kernel_rfl) ?hQ_17 ?hy_17 (by assumption) ?_
    case hi_17 => simp only [List.getElem?_toArray, List.getElem?_cons_zero, List.getElem?_cons_succ] <;> rfl
    case hf_17 => kernel_rfl
    case hQ_17 => exact fun _ _ _ h => h
    case hy_17 =>
      refine Or.inl ⟨by rfl, ?_⟩
      intro W hSw
      obtain ⟨q0, q1, q2, q3, q4⟩ := hSw
      go_simp
      try with_reducible rfl
    try simp only [Act.put, List.setIfInBounds_toArray, List.set_cons_zero, List.set_cons_succ]
    refine wpAnyH_take (i := 3) (oi := ?oi_18) (v := ?_) ?hi_18 (by kernel_rfl) ?hf_18 (by kernel_rfl) ?hQ_18 ?hy_18 (by assumption) ?_
    case hi_18 => simp only [List.getElem?_toArray, List.getElem?_cons_zero, List.getElem?_cons_succ] <;> rfl
    case hf_18 => kernel_rfl
    case hQ_18 => exact fun _ _ _ h => h
    case hy_18 =>
      refine Or.inl ⟨by rfl, ?_⟩
      intro W hSw
      obtain ⟨q0, q1, q2, q3, q4⟩ := hSw
      go_simp
      try with_reducible rfl
    try simp only [Act.put, List.setIfInBounds_toArray, List.set_cons_zero, List.set_cons_succ]
    refine wpAnyH_take (i := 4) (oi := ?oi_19) (v := ?_) ?hi_19 (by kernel_rfl) ?hf_19 (by kernel_rfl) ?hQ_19 ?hy_19 (by assumption) ?_
    case hi_19 => simp only [List.getElem?_toArray, List.getElem?_cons_zero, List.getElem?_cons_succ] <;> rfl
    case hf_19 => kernel_rfl
    case hQ_19 => exact fun _ _ _ h => h
    case hy_19 =>
      refine Or.inl ⟨by rfl, ?_⟩
      intro W hSw
      obtain ⟨q0, q1, q2, q3, q4⟩ := hSw
      go_simp
      try with_reducible rfl
    try simp only [Act.put, List.setIfInBounds_toArray, List.set_cons_zero, List.set_cons_succ]
    refine wpAnyH_take (i := 7) (oi := ?oi_20) (v := ?_) ?hi_20 (by kernel_rfl) ?hf_20 (by kernel_rfl) ?hQ_20 ?hy_20 (by assumption) ?_
    case hi_20 => simp only [List.getElem?_toArray, List.getElem?_cons_zero, List.getElem?_cons_succ] <;> rfl
    case hf_20 => kernel_rfl
    case hQ_20 => exact fun _ _ _ h => h
    case hy_20 =>
      refine Or.inl ⟨by rfl, ?_⟩
      intro W hSw
      obtain ⟨q0, q1, q2, q3, q4⟩ := hSw
      go_simp
      try with_reducible rfl
    try simp only [Act.put, List.setIfInBounds_toArray, List.set_cons_zero, List.set_cons_succ]
    refine wpAnyH_take (i := 8) (oi := ?oi_21) (v := ?_) ?hi_21 (by kernel_rfl) ?hf_21 (by kernel_rfl) ?hQ_21 ?hy_21 (by assumption) ?_
    case hi_21 => simp only [List.getElem?_toArray, List.getElem?_cons_zero, List.getElem?_cons_succ] <;> rfl
    case hf_21 => kernel_rfl
    case hQ_21 => exact fun _ _ _ h => h
    case hy_21 =>
      refine Or.inl ⟨by rfl, ?_⟩
      intro W hSw
      obtain ⟨q0, q1, q2, q3, q4⟩ := hSw
      go_simp
      try with_reducible rfl
    try simp only [Act.put, List.setIfInBounds_toArray, List.set_cons_zero, List.set_cons_succ]
    refine wpAnyH_ready (rs := [5]) (by kernel_rfl) (by simp) ?_
    refine AllReadyH.cons (o := ?oi_22_0) ?hi_22_0 (fun K hK => ?_) AllReadyH.nil
    case hi_22_0 => simp only [List.getElem?_toArray, List.getElem?_cons_zero, List.getElem?_cons_succ]; try rfl
    go_simp
    (go_at_call 42
     refine (HPl.out _).mono ?_
     rintro e ua ⟨pa, qa, rfl, hya, hba, hgea⟩
     have HYa := Lib.hid hya
     have hnea : g1 < pa := Nat.lt_of_lt_of_le ((HO1d.out.lt _ rfl).2) hgea
     have HBa : Hid (Below W0.heap.size W0 ua) := Lib.hid (HB1d.out.trans (hba.mono HB1d.out.size))
     have HOa := Lib.hid (own_kept HO1d.out hba)
     have hka := HK.out _ HBa.out
     clear hya hba hgea)
    refine hK.out _ _ hka (fun hHeld => ?_)
    clear hK K
    try simp only [Act.put, List.setIfInBounds_toArray, List.set_cons_zero, List.set_cons_succ]
    refine wpAnyH_ready (rs := [6]) (by kernel_rfl) (by simp) ?_
    refine AllReadyH.cons (o := ?oi_14_0) ?hi_14_0 (fun K hK => ?_) AllReadyH.nil
    case hi_14_0 => simp only [List.getElem?_toArray, List.getElem?_cons_zero, List.getElem?_cons_succ]; try rfl
    obtain ⟨v7, w7, hr, ho7, hg7⟩ := app_by _ W0.heap.size _ Kl _ (some ⟨pa, 0, none⟩) _ _ El HOa.out HYa.out (by omega) HBa.out.size (by omega)
    have HB7 : Hid (Below W0.heap.size W0 w7) := Lib.hid (own_below0 HBa.out HOa.out hg7 HBa.out.size)
    obtain ⟨g7, c7, e7, hnc7, hmc7⟩ := own_some ho7 (by omega)
    subst e7
    have HO7 := Lib.hid ho7
    have HX7 := Lib.hid (cat_lt HHL.out HExl.out)
    have HN7 := Lib.hid (len_two HLn.out HEl.out).symm
    have hk7 := HK.out _ HB7.out
    refine step_append_run rfl (.tmp 94) (.tmp 99) 27 rfl _ _ _ w7 rfl rfl hr ?_
    clear hr ho7 hg7
    refine hK.out _ _ hk7 (fun hHeld => ?_)
    clear hK K
    try simp only [Act.put, List.setIfInBounds_toArray, List.set_cons_zero, List.set_cons_succ]
    refine wpAnyH_ready (rs := [9]) (by kernel_rfl) (by simp) ?_
    refine AllReadyH.cons (o := ?oi_13_0) ?hi_13_0 (fun K hK => ?_) AllReadyH.nil
    case hi_13_0 => simp only [List.getElem?_toArray, List.getElem?_cons_zero, List.getElem?_cons_succ]; try rfl
    go_simp
    (go_at_call 42
     refine (HPa.out _).mono ?_
     rintro e ub ⟨pb, qb, rfl, hyb, hbb, hgeb⟩
     have HYb := Lib.hid hyb
     have hneb : g7 < pb := Nat.lt_of_lt_of_le ((HO7.out.lt _ rfl).2) hgeb
     have HBb : Hid (Below W0.heap.size W0 ub) := Lib.hid (HB7.out.trans (hbb.mono HB7.out.size))
     have HOb := Lib.hid (own_kept HO7.out hbb)
     have hkb := HK.out _ HBb.out
     clear hyb hbb hgeb)
    refine hK.out _ _ hkb (fun hHeld => ?_)
    clear hK K
    try simp only [Act.put, List.setIfInBounds_toArray, List.set_cons_zero, List.set_cons_succ]
    refine wpAnyH_ready (rs := [10]) (by kernel_rfl) (by simp) ?_
    refine AllReadyH.cons (o := ?oi_12_0) ?hi_12_0 (fun K hK => ?_) AllReadyH.nil
    case hi_12_0 => simp only [List.getElem?_toArray, List.getElem?_cons_zero, List.getElem?_cons_succ]; try rfl
    obtain ⟨v8, w8, hr, ho8, hg8⟩ := app_by _ W0.heap.size _ Ka _ (some ⟨pb, 0, none⟩) _ _ Ea HOb.out HYb.out (by omega) HBb.out.size (by omega)
    have HB8 : Hid (Below W0.heap.size W0 w8) := Lib.hid (own_below0 HBb.out HOb.out hg8 HBb.out.size)
    have HX8 := Lib.hid (cat_lt HX7.out HExa.out)
    have HN8 := Lib.hid (len_two HN7.out HEa.out)
    have hk8 := HK.out _ HB8.out
    refine step_append_run rfl (.tmp 100) (.tmp 103) 27 rfl _ _ _ w8 rfl rfl hr ?_
    clear hr
    refine hK.out _ _ hk8 (fun hHeld => ?_)
    clear hK K
    try simp only [Act.put, List.setIfInBounds_toArray, List.set_cons_zero, List.set_cons_succ]
    refine wpAnyH_take (i := 11) (oi := ?oi_11) (v := ?_) ?hi_11 (by kernel_rfl) ?hf_11 (by kernel_rfl) ?hQ_11 ?hy_11 (by assumption) ?_
    case hi_11 => simp only [List.getElem?_toArray, List.getElem?_cons_zero, List.getElem?_cons_succ] <;> rfl
    case hf_11 => kernel_rfl
    case hQ_11 => exact fun _ _ _ h => h
    case hy_11 =>
      refine Or.inl ⟨by rfl, ?_⟩
      intro W hSw
      obtain ⟨q0, q1, q2, q3, q4⟩ := hSw
      go_simp
      try with_reducible rfl
    try simp only [Act.put, List.setIfInBounds_toArray, List.set_cons_zero, List.set_cons_succ]
    refine wpAnyH_done (by kernel_rfl) ?_ _
    refine NoPanic.normal ?_
    clear hHeld
    obtain ⟨g8, c8, e8, hnc8, hmc8⟩ := own_some ho8 (by omega)
    subst e8
    unfold maxLen at hmc8
    have HO8 := Lib.hid ho8
    clear ho8 hg8
    obtain ⟨x0, x1, x2, x3, x4⟩ := hk8
    have HN8s := Lib.hid HN8.out.symm
    go_upto_region 27 with fail
    go_wp2_with (first
      | (go_at_call 42; (with_reducible refine (HPb.out _).mono ?_); rintro e u3 ⟨p3, q3, rfl, hy3, hb3, hge3⟩; have HY3 := Lib.hid hy3; have HOk3 := Lib.hid (own_kept HO8.out hb3); have HBk3 := Lib.hid (HB8.out.trans (hb3.mono HB8.out.size)); clear hy3 hb3 hge3)
      | (at_builtin; refine wpList_append_own _ rfl (.tmp 105) (.tmp 108) 27 rfl W0.heap.size 5 i0 _ 1 1 Tryz.underlying27 hi hz0 hz1 hz2 rfl (by decide) _ (nh + Kl + Ka) _ rfl HOk3.out ⟨p3, 0, none⟩ Kb q3 (Eb.map U8) rfl (by simp [HEb.out]) (u8cells HY3.out) ?d1 ?d2 ?d3 ?d4 ?_))
    case d1 => intro u hu; rw [List.mem_map] at hu; obtain ⟨_, _, rfl⟩ := hu; rfl
    case d2 => unfold maxLen; omega
    case d3 => have := HY3.out.2.2.1; omega
    case d4 => exact HBk3.out.size
    intro v3 V3 ho3 hg3 _
    replace ho3 : V3.ownsRow W0.heap.size 5 1 v3 (nh + Kl + Ka + Kb) ((headL cd ++ El ++ Ea ++ Eb).map U8) := by simpa only [List.map_append, List.append_assoc] using ho3
    have HB3 : Hid (Below W0.heap.size W0 V3) := Lib.hid (own_below0 HBk3.out HOk3.out hg3 HBk3.out.size)
    have HX3 := Lib.hid (cat_lt HX8.out HExb.out)
    have HN3 := Lib.hid (len_two HN8s.out HEb.out)
    obtain ⟨A3, c3, e3, hy3z⟩ := byt_any ho3 HN3.out.symm HX3.out (by omega)
    subst e3
    have HYz := Lib.hid hy3z
    clear ho3 hg3 hy3z
    go_wp2
    go_ret
    exact ⟨_, _, _, rfl, HYz.out, HN3.out, HB0.out.trans (HB3.out.mono HB0.out.size)⟩
  · have hge : (64512 : Int) ≤ cd := hhi.1
    have HP2 := Lib.hid (fun W => refPut_any (cd - 64512).toNat W (by omega))
    unfold PutPost at HP2
    have hl : headL cd = [252] ++ Leb.enc (Leb.szU (cd - 64512).toNat) (((cd - 64512).toNat : Nat) : Int) := by unfold headL; rw [if_neg (by omega)]; rfl
    have hE2 : (Leb.enc (Leb.szU (cd - 64512).toNat) (((cd - 64512).toNat : Nat) : Int)).length = Leb.szU (cd - 64512).toNat + 1 := enc_len _ _
    have hsz2 := Leb.szU_le 9 (cd - 64512).toNat (by omega)
    generalize Leb.enc (Leb.szU (cd - 64512).toNat) (((cd - 64512).toNat : Nat) : Int) = E2 at HP2 hE2 hl
    generalize Leb.szU (cd - 64512).toNat = K1 at HP2 hE2 hsz2
    rw [Int.toNat_of_nonneg (by omega)] at HP2
    obtain ⟨K2, hK2⟩ : ∃ K, K = K1 + 1 := ⟨_, rfl⟩
    rw [← hK2] at HP2 hE2
    obtain ⟨nh, hnh⟩ : ∃ z, z = 1 + K2 := ⟨_, rfl⟩
    have hnb : nh ≤ 20 ∧ 1 ≤ nh := by omega
    have hk210 : K2 ≤ 10 := by omega
    have HLn : Hid ((headL cd).length = nh) := Lib.hid (by rw [hl, List.length_append, hE2, hnh]; rfl)
    have HNH := Lib.hid hnh
    have HHd := Lib.hid hl
    have HE2 := Lib.hid hE2
    clear hl hK2 hnh hsz2 hE2
    go_enter Tryz.func18, Tryz.ntmps18
    go_upto_region 1 with fail
    rw [← HBX.out]
    rw [← HW0.out]
    go_upto_region 2 with fail
    generalize hV1 : W0.alloc _ = V1
    have hb1 : Below W0.heap.size W0 V1 := by rw [← hV1]; exact (Below.refl _ _).alloc (Nat.le_refl _) _
    obtain ⟨y0, y1, y2, y3, y4⟩ := HK.out V1 hb1
    have HB1' := Lib.hid hb1
    clear hV1 hb1 z0 z1 z2 z3 z4
    have y9 : (V1.alloc (.cells #[.int .u8 252] 5)).cell? ⟨bx, 0, none⟩ = some (.int .i64 cd) := (HK.out _ (HB1'.out.alloc HB1'.out.size _)).1
    go_upto_region 4 with (first
      | (go_at_call 42; (with_reducible refine (HP2.out _).mono ?_); rintro e w2 ⟨g2, c2, rfl, hy2, hb2⟩
         have HYh := Lib.hid hy2
         have HOh : Hid (w2.ownsRow W0.heap.size 5 1 (.slice (some ⟨V1.heap.size, 0, none⟩) 1 1) 1 ([252].map U8)) := Lib.hid (own_kept ⟨by simp, .inr ⟨V1.heap.size, 1, _, rfl, HB1'.out.size, heap_alloc_new V1 _, Nat.le_refl _, by unfold maxLen; omega, by simp, by simp [U8]⟩⟩ hb2)
         have HBh := Lib.hid ((HB1'.out.alloc HB1'.out.size _).trans (hb2.mono (HB1'.out.alloc HB1'.out.size _).size))
         clear hy2 hb2)
      | (at_builtin; refine wpList_append_own _ rfl (.tmp 13) (.tmp 18) 27 rfl W0.heap.size 5 i0 _ 1 1 Tryz.underlying27 hi hz0 hz1 hz2 rfl (by decide) _ 1 _ rfl HOh.out ⟨g2, 0, none⟩ K2 c2 (E2.map U8) rfl (by simp [HE2.out]) (u8cells HYh.out) ?d1 ?d2 ?d3 ?d4 ?_))
    case d1 => intro u hu; rw [List.mem_map] at hu; obtain ⟨_, _, rfl⟩ := hu; rfl
    case d2 => unfold maxLen; omega
    case d3 => have := HYh.out.2.2.1; omega
    case d4 => exact HBh.out.size
    intro v5 V ho5 hg5 _
    replace ho5 : V.ownsRow W0.heap.size 5 1 v5 nh ((headL cd).map U8) := by rw [HHd.out, List.map_append, HNH.out]; exact ho5
    have HB1 : Hid (Below W0.heap.size W0 V) := Lib.hid (own_below0 HBh.out HOh.out hg5 HBh.out.size)
    obtain ⟨g1, c1, e5, hnc, hmc⟩ := own_some ho5 (by omega)
    subst e5
    have HO1 := Lib.hid ho5
    unfold maxLen at hmc
    have hnc : nh ≤ c1 ∧ c1 ≤ 9223372036854775807 := ⟨hnc, by omega⟩
    clear ho5 hg5 y0 y1 y2 y3 y4 y9 hmc
    obtain ⟨y0, y1, y2, y3, y4⟩ := HK.out V HB1.out
    clear HP2
    go_upto_region 4 with fail
    go_upto_region 5 with (go_at_call 37; refine (HF.out _).mono ?_; rintro e w1 ⟨rfl, rfl⟩)
    subst hfo
    have hne : (a == 0) = false := by simpa using ha0
    go_upto_region 26 with fail
    have HVd : Hid (Below V.heap.size V V.drew) := Lib.hid (below_drew (Below.refl _ _))
    have HB1d : Hid (Below W0.heap.size W0 V.drew) := Lib.hid (HB1.out.trans (HVd.out.mono HB1.out.size))
    have HO1d := Lib.hid (own_kept HO1.out HVd.out)
    have hks0 := HK.out _ HB1d.out
    clear y0 y1 y2 y3 y4
    refine wp_region_noPanic ?_
    refine wp_region_held_drew (S := (fun W => W.cell? ⟨bx, 0, none⟩ = some (.int .i64 cd) ∧ W.cell? ⟨bx, 1, none⟩ = some (.int .u64 a) ∧ W.cell? ⟨bx, 2, none⟩ = some (.int .u64 b) ∧ W.cell? ⟨bx, 3, none⟩ = some (.int .i64 al) ∧ W.cell? ⟨bx, 4, none⟩ = some (.slice A n c))) (by kernel_rfl) hks0 (fun hHeld => ?_)
    refine wpAnyH_take (i := 0) (oi := ?oi_15) (v := ?_) ?hi_15 (by kernel_rfl) ?hf_15 (by kernel_rfl) ?hQ_15 ?hy_15 (by assumption) ?_
    case hi_15 => simp only [List.getElem?_toArray, List.getElem?_cons_zero, List.getElem?_cons_succ] <;> rfl
    case hf_15 => kernel_rfl
    case hQ_15 => exact fun _ _ _ h => h
    case hy_15 =>
      refine Or.inl ⟨by rfl, ?_⟩
      intro W hSw
      obtain ⟨q0, q1, q2, q3, q4⟩ := hSw
      go_simp
      try with_reducible rfl
    try simp only [Act.put, List.setIfInBounds_toArray, List.set_cons_zero, List.set_cons_succ]
    refine wpAnyH_take (i := 1) (oi := ?oi_16) (v := ?_) ?hi_16 (by kernel_rfl) ?hf_16 (by kernel_rfl) ?hQ_16 ?hy_16 (by assumption) ?_
    case hi_16 => simp only [List.getElem?_toArray, List.getElem?_cons_zero, List.getElem?_cons_succ] <;> rfl
    case hf_16 => kernel_rfl
    case hQ_16 => exact fun _ _ _ h => h
    case hy_16 =>
      refine Or.inl ⟨by rfl, ?_⟩
      intro W hSw
      obtain ⟨q0, q1, q2, q3, q4⟩ := hSw
      go_simp
      try with_reducible rfl
    try simp only [Act.put, List.setIfInBounds_toArray, List.set_cons_zero, List.set_cons_succ]
    refine wpAnyH_take (i := 2) (oi := ?oi_17) (v := ?_) ?hi_17 (by kernel_rfl) ?hf_17 (by kernel_rfl) ?hQ_17 ?hy_17 (by assumption) ?_
    case hi_17 => simp only [List.getElem?_toArray, List.getElem?_cons_zero, List.getElem?_cons_succ] <;> rfl
    case hf_17 => kernel_rfl
    case hQ_17 => exact fun _ _ _ h => h
    case hy_17 =>
      refine Or.inl ⟨by rfl, ?_⟩
      intro W hSw
      obtain ⟨q0, q1, q2, q3, q4⟩ := hSw
      go_simp
      try with_reducible rfl
    try simp only [Act.put, List.setIfInBounds_toArray, List.set_cons_zero, List.set_cons_succ]
    refine wpAnyH_take (i := 3) (oi := ?oi_18) (v := ?_) ?hi_18 (by kernel_rfl) ?hf_18 (by kernel_rfl) ?hQ_18 ?hy_18 (by assumption) ?_
    case hi_18 => simp only [List.getElem?_toArray, List.getElem?_cons_zero, List.getElem?_cons_succ] <;> rfl
    case hf_18 => kernel_rfl
    case hQ_18 => exact fun _ _ _ h => h
    case hy_18 =>
      refine Or.inl ⟨by rfl, ?_⟩
      intro W hSw
      obtain ⟨q0, q1, q2, q3, q4⟩ := hSw
      go_simp
      try with_reducible rfl
    try simp only [Act.put, List.setIfInBounds_toArray, List.set_cons_zero, List.set_cons_succ]
    refine wpAnyH_take (i := 4) (oi := ?oi_19) (v := ?_) ?hi_19 (by kernel_rfl) ?hf_19 (by kernel_rfl) ?hQ_19 ?hy_19 (by assumption) ?_
    case hi_19 => simp only [List.getElem?_toArray, List.getElem?_cons_zero, List.getElem?_cons_succ] <;> rfl
    case hf_19 => kernel_rfl
    case hQ_19 => exact fun _ _ _ h => h
    case hy_19 =>
      refine Or.inl ⟨by rfl, ?_⟩
      intro W hSw
      obtain ⟨q0, q1, q2, q3, q4⟩ := hSw
      go_simp
      try with_reducible rfl
    try simp only [Act.put, List.setIfInBounds_toArray, List.set_cons_zero, List.set_cons_succ]
    refine wpAnyH_take (i := 7) (oi := ?oi_20) (v := ?_) ?hi_20 (by kernel_rfl) ?hf_20 (by kernel_rfl) ?hQ_20 ?hy_20 (by assumption) ?_
    case hi_20 => simp only [List.getElem?_toArray, List.getElem?_cons_zero, List.getElem?_cons_succ] <;> rfl
    case hf_20 => kernel_rfl
    case hQ_20 => exact fun _ _ _ h => h
    case hy_20 =>
      refine Or.inl ⟨by rfl, ?_⟩
      intro W hSw
      obtain ⟨q0, q1, q2, q3, q4⟩ := hSw
      go_simp
      try with_reducible rfl
    try simp only [Act.put, List.setIfInBounds_toArray, List.set_cons_zero, List.set_cons_succ]
    refine wpAnyH_take (i := 8) (oi := ?oi_21) (v := ?_) ?hi_21 (by kernel_rfl) ?hf_21 (by kernel_rfl) ?hQ_21 ?hy_21 (by assumption) ?_
    case hi_21 => simp only [List.getElem?_toArray, List.getElem?_cons_zero, List.getElem?_cons_succ] <;> rfl
    case hf_21 => kernel_rfl
    case hQ_21 => exact fun _ _ _ h => h
    case hy_21 =>
      refine Or.inl ⟨by rfl, ?_⟩
      intro W hSw
      obtain ⟨q0, q1, q2, q3, q4⟩ := hSw
      go_simp
      try with_reducible rfl
    try simp only [Act.put, List.setIfInBounds_toArray, List.set_cons_zero, List.set_cons_succ]
    refine wpAnyH_ready (rs := [5]) (by kernel_rfl) (by simp) ?_
    refine AllReadyH.cons (o := ?oi_22_0) ?hi_22_0 (fun K hK => ?_) AllReadyH.nil
    case hi_22_0 => simp only [List.getElem?_toArray, List.getElem?_cons_zero, List.getElem?_cons_succ]; try rfl
    go_simp
    (go_at_call 42
     refine (HPl.out _).mono ?_
     rintro e ua ⟨pa, qa, rfl, hya, hba, hgea⟩
     have HYa := Lib.hid hya
     have hnea : g1 < pa := Nat.lt_of_lt_of_le ((HO1d.out.lt _ rfl).2) hgea
     have HBa : Hid (Below W0.heap.size W0 ua) := Lib.hid (HB1d.out.trans (hba.mono HB1d.out.size))
     have HOa := Lib.hid (own_kept HO1d.out hba)
     have hka := HK.out _ HBa.out
     clear hya hba hgea)
    refine hK.out _ _ hka (fun hHeld => ?_)
    clear hK K
    try simp only [Act.put, List.setIfInBounds_toArray, List.set_cons_zero, List.set_cons_succ]
    refine wpAnyH_ready (rs := [6]) (by kernel_rfl) (by simp) ?_
    refine AllReadyH.cons (o := ?oi_14_0) ?hi_14_0 (fun K hK => ?_) AllReadyH.nil
    case hi_14_0 => simp only [List.getElem?_toArray, List.getElem?_cons_zero, List.getElem?_cons_succ]; try rfl
    obtain ⟨v7, w7, hr, ho7, hg7⟩ := app_by _ W0.heap.size _ Kl _ (some ⟨pa, 0, none⟩) _ _ El HOa.out HYa.out (by omega) HBa.out.size (by omega)
    have HB7 : Hid (Below W0.heap.size W0 w7) := Lib.hid (own_below0 HBa.out HOa.out hg7 HBa.out.size)
    obtain ⟨g7, c7, e7, hnc7, hmc7⟩ := own_some ho7 (by omega)
    subst e7
    have HO7 := Lib.hid ho7
    have HX7 := Lib.hid (cat_lt HHL.out HExl.out)
    have HN7 := Lib.hid (len_two HLn.out HEl.out).symm
    have hk7 := HK.out _ HB7.out
    refine step_append_run rfl (.tmp 94) (.tmp 99) 27 rfl _ _ _ w7 rfl rfl hr ?_
    clear hr ho7 hg7
    refine hK.out _ _ hk7 (fun hHeld => ?_)
    clear hK K
    try simp only [Act.put, List.setIfInBounds_toArray, List.set_cons_zero, List.set_cons_succ]
    refine wpAnyH_ready (rs := [9]) (by kernel_rfl) (by simp) ?_
    refine AllReadyH.cons (o := ?oi_13_0) ?hi_13_0 (fun K hK => ?_) AllReadyH.nil
    case hi_13_0 => simp only [List.getElem?_toArray, List.getElem?_cons_zero, List.getElem?_cons_succ]; try rfl
    go_simp
    (go_at_call 42
     refine (HPa.out _).mono ?_
     rintro e ub ⟨pb, qb, rfl, hyb, hbb, hgeb⟩
     have HYb := Lib.hid hyb
     have hneb : g7 < pb := Nat.lt_of_lt_of_le ((HO7.out.lt _ rfl).2) hgeb
     have HBb : Hid (Below W0.heap.size W0 ub) := Lib.hid (HB7.out.trans (hbb.mono HB7.out.size))
     have HOb := Lib.hid (own_kept HO7.out hbb)
     have hkb := HK.out _ HBb.out
     clear hyb hbb hgeb)
    refine hK.out _ _ hkb (fun hHeld => ?_)
    clear hK K
    try simp only [Act.put, List.setIfInBounds_toArray, List.set_cons_zero, List.set_cons_succ]
    refine wpAnyH_ready (rs := [10]) (by kernel_rfl) (by simp) ?_
    refine AllReadyH.cons (o := ?oi_12_0) ?hi_12_0 (fun K hK => ?_) AllReadyH.nil
    case hi_12_0 => simp only [List.getElem?_toArray, List.getElem?_cons_zero, List.getElem?_cons_succ]; try rfl
    obtain ⟨v8, w8, hr, ho8, hg8⟩ := app_by _ W0.heap.size _ Ka _ (some ⟨pb, 0, none⟩) _ _ Ea HOb.out HYb.out (by omega) HBb.out.size (by omega)
    have HB8 : Hid (Below W0.heap.size W0 w8) := Lib.hid (own_below0 HBb.out HOb.out hg8 HBb.out.size)
    have HX8 := Lib.hid (cat_lt HX7.out HExa.out)
    have HN8 := Lib.hid (len_two HN7.out HEa.out)
    have hk8 := HK.out _ HB8.out
    refine step_append_run rfl (.tmp 100) (.tmp 103) 27 rfl _ _ _ w8 rfl rfl hr ?_
    clear hr
    refine hK.out _ _ hk8 (fun hHeld => ?_)
    clear hK K
    try simp only [Act.put, List.setIfInBounds_toArray, List.set_cons_zero, List.set_cons_succ]
    refine wpAnyH_take (i := 11) (oi := ?oi_11) (v := ?_) ?hi_11 (by kernel_rfl) ?hf_11 (by kernel_rfl) ?hQ_11 ?hy_11 (by assumption) ?_
    case hi_11 => simp only [List.getElem?_toArray, List.getElem?_cons_zero, List.getElem?_cons_succ] <;> rfl
    case hf_11 => kernel_rfl
    case hQ_11 => exact fun _ _ _ h => h
    case hy_11 =>
      refine Or.inl ⟨by rfl, ?_⟩
      intro W hSw
      obtain ⟨q0, q1, q2, q3, q4⟩ := hSw
      go_simp
      try with_reducible rfl
    try simp only [Act.put, List.setIfInBounds_toArray, List.set_cons_zero, List.set_cons_succ]
    refine wpAnyH_done (by kernel_rfl) ?_ _
    refine NoPanic.normal ?_
    clear hHeld
    obtain ⟨g8, c8, e8, hnc8, hmc8⟩ := own_some ho8 (by omega)
    subst e8
    unfold maxLen at hmc8
    have HO8 := Lib.hid ho8
    clear ho8 hg8
    obtain ⟨x0, x1, x2, x3, x4⟩ := hk8
    have HN8s := Lib.hid HN8.out.symm
    go_upto_region 27 with fail
    go_wp2_with (first
      | (go_at_call 42; (with_reducible refine (HPb.out _).mono ?_); rintro e u3 ⟨p3, q3, rfl, hy3, hb3, hge3⟩; have HY3 := Lib.hid hy3; have HOk3 := Lib.hid (own_kept HO8.out hb3); have HBk3 := Lib.hid (HB8.out.trans (hb3.mono HB8.out.size)); clear hy3 hb3 hge3)
      | (at_builtin; refine wpList_append_own _ rfl (.tmp 105) (.tmp 108) 27 rfl W0.heap.size 5 i0 _ 1 1 Tryz.underlying27 hi hz0 hz1 hz2 rfl (by decide) _ (nh + Kl + Ka) _ rfl HOk3.out ⟨p3, 0, none⟩ Kb q3 (Eb.map U8) rfl (by simp [HEb.out]) (u8cells HY3.out) ?d1 ?d2 ?d3 ?d4 ?_))
    case d1 => intro u hu; rw [List.mem_map] at hu; obtain ⟨_, _, rfl⟩ := hu; rfl
    case d2 => unfold maxLen; omega
    case d3 => have := HY3.out.2.2.1; omega
    case d4 => exact HBk3.out.size
    intro v3 V3 ho3 hg3 _
    replace ho3 : V3.ownsRow W0.heap.size 5 1 v3 (nh + Kl + Ka + Kb) ((headL cd ++ El ++ Ea ++ Eb).map U8) := by simpa only [List.map_append, List.append_assoc] using ho3
    have HB3 : Hid (Below W0.heap.size W0 V3) := Lib.hid (own_below0 HBk3.out HOk3.out hg3 HBk3.out.size)
    have HX3 := Lib.hid (cat_lt HX8.out HExb.out)
    have HN3 := Lib.hid (len_two HN8s.out HEb.out)
    obtain ⟨A3, c3, e3, hy3z⟩ := byt_any ho3 HN3.out.symm HX3.out (by omega)
    subst e3
    have HYz := Lib.hid hy3z
    clear ho3 hg3 hy3z
    go_wp2
    go_ret
    exact ⟨_, _, _, rfl, HYz.out, HN3.out, HB0.out.trans (HB3.out.mono HB0.out.size)⟩
end Go.Proofs.YtggfaalodojjkaaGreatDoor
namespace Go.Proofs.YtggfaalodojjkaaGreatDoor
open Go.RowKit
set_option linter.unusedVariables false
set_option linter.unusedSimpArgs false
theorem putL_app (a b : List Int) : putL (a ++ b) = putL a ++ putL b := by
  induction a with
  | nil => rfl
  | cons z a ih => show Leb.enc _ _ ++ putL (a ++ b) = _; rw [ih, ← List.append_assoc]; rfl
theorem putL_take (l : List Int) (k : Nat) (hk : k < l.length) : putL (l.take (k + 1)) = putL (l.take k) ++ Leb.enc (Leb.szU (l.getD k 0).toNat) (l.getD k 0).toNat := by
  rw [List.take_add_one, List.getElem?_eq_getElem hk, putL_app, List.getD_eq_getElem?_getD, List.getElem?_eq_getElem hk]
  show _ ++ (Leb.enc _ _ ++ []) = _
  rw [List.append_nil]
  rfl
set_option maxHeartbeats 8000000 in
set_option maxRecDepth 100000 in
theorem enc18_labels (cd a b al : Int) (A : Option Addr) (n c : Nat) (l : List Int) (w : World) (hsl : Sl w A n c l) (hn : l.length = n) (hcd : (0 ≤ cd ∧ cd < 252) ∨ (64512 ≤ cd ∧ cd < 100000)) (ha : 0 ≤ a ∧ a < 18446744073709551616) (hfo : formL cd = 3) (hL : ∀ z ∈ l, 0 ≤ z ∧ z < 18446744073709551616) (hln : l.length ≤ 100) :
    Calls Tryz.prog 18 #[.agg #[.int .i64 cd, .int .u64 a, .int .u64 b, .int .i64 al, .slice A n c]] w (EnR (headL cd ++ (Leb.enc (Leb.szU (n : Int).toNat) (n : Int).toNat ++ (putL l ++ Leb.enc (Leb.szU a.toNat) a.toNat))) w) := by
  obtain ⟨i0, hi, hz0, hz1, hz2⟩ := info_parts info5
  have hnc0 := hsl.2.1
  have hcm0 := hsl.2.2.1
  unfold maxLen at hcm0
  have hb00 : Below w.heap.size w (w.alloc (.cells #[.int .i64 cd, .int .u64 a, .int .u64 b, .int .i64 al, .slice A n c] 25)) := (Below.refl _ _).alloc (Nat.le_refl _) _
  have HSL0 := Lib.hid hsl
  have HLB := Lib.hid hL
  clear hsl hL hb00
  obtain ⟨W0, hW0⟩ : ∃ V, V = w.alloc (.cells #[.int .i64 cd, .int .u64 a, .int .u64 b, .int .i64 al, .slice A n c] 25) := ⟨_, rfl⟩
  obtain ⟨bx, hbx⟩ : ∃ x, x = w.heap.size := ⟨_, rfl⟩
  have hb0 : Below w.heap.size w W0 := by rw [hW0]; exact (Below.refl _ _).alloc (Nat.le_refl _) _
  have hX0 : Blk W0 bx 25 #[.int .i64 cd, .int .u64 a, .int .u64 b, .int .i64 al, .slice A n c] := by rw [hW0, hbx]; exact Blk.new w 25 _
  have HK : Hid (∀ V, Below W0.heap.size W0 V → V.cell? ⟨bx, 0, none⟩ = some (.int .i64 cd) ∧ V.cell? ⟨bx, 1, none⟩ = some (.int .u64 a) ∧ V.cell? ⟨bx, 2, none⟩ = some (.int .u64 b) ∧ V.cell? ⟨bx, 3, none⟩ = some (.int .i64 al) ∧ V.cell? ⟨bx, 4, none⟩ = some (.slice A n c)) := Lib.hid (fun V hV => by
    have h1 := hX0.below hV hX0.lt
    exact ⟨h1.cell 0, h1.cell 1, h1.cell 2, h1.cell 3, h1.cell 4⟩)
  have HB0 := Lib.hid hb0
  have HW0 := Lib.hid hW0
  have HBX := Lib.hid hbx
  obtain ⟨fo, hfl⟩ : ∃ z, z = formL cd := ⟨_, rfl⟩
  have HF := Lib.hid (fun W => RForm_any cd ⟨by omega, by omega⟩ W)
  rw [← hfl] at HF hfo
  have HPn := Lib.hid (fun W => refPut_new ((n : Int)).toNat W (by omega))
  have hEn : (Leb.enc (Leb.szU ((n : Int)).toNat) ((((n : Int)).toNat : Nat) : Int)).length = Leb.szU ((n : Int)).toNat + 1 := enc_len _ _
  have hExn : ∀ x ∈ Leb.enc (Leb.szU ((n : Int)).toNat) ((((n : Int)).toNat : Nat) : Int), x < 256 := Leb.enc_lt _ _
  have hszn := Leb.szU_le 9 ((n : Int)).toNat (by omega)
  generalize Leb.enc (Leb.szU ((n : Int)).toNat) ((((n : Int)).toNat : Nat) : Int) = En at HPn hEn hExn ⊢
  generalize Leb.szU ((n : Int)).toNat = K0n at HPn hEn hszn
  rw [Int.toNat_of_nonneg (by omega)] at HPn
  obtain ⟨Kn, hKn⟩ : ∃ K, K = K0n + 1 := ⟨_, rfl⟩
  rw [← hKn] at HPn hEn
  have hK10n : Kn ≤ 10 ∧ 0 < Kn := by omega
  have HExn := Lib.hid hExn
  have HEn := Lib.hid hEn
  clear hKn hszn hExn hEn
  unfold PutNew at HPn
  have HPa := Lib.hid (fun W => refPut_new (a).toNat W (by omega))
  have hEa : (Leb.enc (Leb.szU (a).toNat) (((a).toNat : Nat) : Int)).length = Leb.szU (a).toNat + 1 := enc_len _ _
  have hExa : ∀ x ∈ Leb.enc (Leb.szU (a).toNat) (((a).toNat : Nat) : Int), x < 256 := Leb.enc_lt _ _
  have hsza := Leb.szU_le 9 (a).toNat (by omega)
  generalize Leb.enc (Leb.szU (a).toNat) (((a).toNat : Nat) : Int) = Ea at HPa hEa hExa ⊢
  generalize Leb.szU (a).toNat = K0a at HPa hEa hsza
  rw [Int.toNat_of_nonneg (by omega)] at HPa
  obtain ⟨Ka, hKa⟩ : ∃ K, K = K0a + 1 := ⟨_, rfl⟩
  rw [← hKa] at HPa hEa
  have hK10a : Ka ≤ 10 ∧ 0 < Ka := by omega
  have HExa := Lib.hid hExa
  have HEa := Lib.hid hEa
  clear hKa hsza hExa hEa
  unfold PutNew at HPa
  have HSL : Hid (∀ V, Below W0.heap.size W0 V → Sl V A n c l) := Lib.hid (fun V hV => HSL0.out.below (HB0.out.trans (hV.mono HB0.out.size)))
  have hwn : IntKind.u64.wrap (n : Int) = n := by rw [IntKind.wrap_u64]; omega
  have HHL := Lib.hid (headL_lt cd)
  have HHP := Lib.hid (headL_pos cd)
  unfold EnR
  obtain ⟨z0, z1, z2, z3, z4⟩ := HK.out W0 (Below.refl _ _)
  have hss : Hid (W0.heap.size = bx + 1) := Lib.hid (by rw [hW0, hbx]; simp)
  clear hb0 hX0 hW0 hbx hfl
  rcases hcd with hlo | hhi
  · have hl : headL cd = [cd.toNat] := by unfold headL; rw [if_pos (by omega), show cd % 256 = cd by omega]
    have hw : IntKind.u8.wrap cd = cd := by simp only [IntKind.wrap, IntKind.bits, IntKind.signed]; simp; omega
    have hge : ¬ (64512 : Int) ≤ cd := by omega
    go_enter Tryz.func18, Tryz.ntmps18
    go_upto_region 1 with fail
    rw [← HBX.out]
    rw [← HW0.out]
    go_upto_region 2 with fail
    obtain ⟨V, hV1⟩ : ∃ V, V = W0.alloc (.cells #[.int .u8 cd] 5) := ⟨_, rfl⟩
    obtain ⟨g1, hbg⟩ : ∃ z, z = W0.heap.size := ⟨_, rfl⟩
    obtain ⟨c1, hc1⟩ : ∃ z, z = 1 := ⟨_, rfl⟩
    obtain ⟨nh, hnh⟩ : ∃ z, z = 1 := ⟨_, rfl⟩
    have hb1 : Below W0.heap.size W0 V := by rw [hV1]; exact (Below.refl _ _).alloc (Nat.le_refl _) _
    have hG : V.ownsRow W0.heap.size 5 1 (.slice (some ⟨g1, 0, none⟩) nh c1) nh ((headL cd).map U8) := by
      rw [hl, hc1, hnh]
      refine ⟨by simp, .inr ⟨g1, 1, _, rfl, by omega, by rw [hV1, hbg]; exact heap_alloc_new W0 _, Nat.le_refl _, by unfold maxLen; omega, by simp, ?_⟩⟩
      simp [U8]
      omega
    rw [← hV1, ← hbg]
    have hnc1 : (.slice (some ⟨g1, 0, none⟩) 1 1 : Value) = .slice (some ⟨g1, 0, none⟩) nh c1 := by rw [hc1, hnh]
    rw [hnc1]
    have HO1 := Lib.hid hG
    have HB1 := Lib.hid hb1
    obtain ⟨y0, y1, y2, y3, y4⟩ := HK.out V hb1
    have HLn : Hid ((headL cd).length = nh) := Lib.hid (by rw [hl, hnh]; rfl)
    have hnb : nh ≤ 20 ∧ 1 ≤ nh := by omega
    have hnc : nh ≤ c1 ∧ c1 ≤ 9223372036854775807 := by omega
    clear hV1 hG hb1 z0 z1 z2 z3 z4 hbg hl hnc1 hc1 hnh
    go_upto_region 5 with (go_at_call 37; refine (HF.out _).mono ?_; rintro e w1 ⟨rfl, rfl⟩)
    subst hfo
    obtain ⟨b0, b1, b2, b3, b4⟩ := HK.out V HB1.out
    clear y0 y1 y2 y3 y4
    go_upto_region 14 with fail
    go_upto_region 15 with (first
      | (go_at_call 42; (with_reducible refine (HPn.out _).mono ?_); rintro e u2 ⟨p2, q2, rfl, hy2, hb2, hge2⟩; have HY2 := Lib.hid hy2; have HOk2 := Lib.hid (own_kept HO1.out hb2); have HBk2 := Lib.hid (HB1.out.trans (hb2.mono HB1.out.size)); clear hy2 hb2 hge2)
      | (at_builtin; refine wpList_append_own _ rfl (.tmp 44) (.tmp 49) 27 rfl W0.heap.size 5 i0 _ 1 1 Tryz.underlying27 hi hz0 hz1 hz2 rfl (by decide) _ (nh) _ rfl HOk2.out ⟨p2, 0, none⟩ Kn q2 (En.map U8) rfl (by simp [HEn.out]) (u8cells HY2.out) ?d1 ?d2 ?d3 ?d4 ?_))
    case d1 => intro u hu; rw [List.mem_map] at hu; obtain ⟨_, _, rfl⟩ := hu; rfl
    case d2 => unfold maxLen; omega
    case d3 => have := HY2.out.2.2.1; omega
    case d4 => exact HBk2.out.size
    intro v2 V2 ho2 hg2 _
    replace ho2 : V2.ownsRow W0.heap.size 5 1 v2 (nh + Kn) ((headL cd ++ En).map U8) := by simpa only [List.map_append, List.append_assoc] using ho2
    have HB2 : Hid (Below W0.heap.size W0 V2) := Lib.hid (own_below0 HBk2.out HOk2.out hg2 HBk2.out.size)
    have HX2 := Lib.hid (cat_lt HHL.out HExn.out)
    have HN2 := Lib.hid (len_two HLn.out HEn.out)
    have HM0 : Hid ((headL cd ++ En).length = nh + Kn) := Lib.hid HN2.out.symm
    obtain ⟨g2, c2, e2, hnc2, hmc2⟩ := own_some ho2 (by omega)
    subst e2
    unfold maxLen at hmc2
    have HO2 := Lib.hid ho2
    clear ho2 hg2
    clear b0 b1 b2 b3 b4
    obtain ⟨x0, x1, x2, x3, x4⟩ := HK.out V2 HB2.out
    go_upto_region 15 with fail
    go_wp2
    go_loopw [3, 4] (fun v3 v4 wr => ∃ (k g m cp : Nat) (L : List Nat), k ≤ n ∧ v4 = .int .i64 k ∧ v3 = .slice (some ⟨g, 0, none⟩) m cp ∧ m ≤ 30 + 10 * k ∧ m ≤ cp ∧ cp ≤ 9223372036854775807 ∧ 0 < m ∧ Hid (wr.ownsRow W0.heap.size 5 1 (.slice (some ⟨g, 0, none⟩) m cp) m (L.map U8)) ∧ Hid (L = headL cd ++ En ++ putL (l.take k)) ∧ Hid (∀ x ∈ L, x < 256) ∧ Hid (L.length = m) ∧ Hid (Below W0.heap.size W0 wr)) (fun _ v4 _ => n - (intOf v4).toNat)
    case atStart => exact ⟨0, g2, nh + Kn, c2, headL cd ++ En, by omega, rfl, rfl, by omega, hnc2, by omega, by omega, HO2, Lib.hid (by simp [putL]), HX2, HM0, HB2⟩
    case round =>
      obtain ⟨k, g, m, cp, L, hk, rfl, rfl, hmk, hmc, hcm, hm0, HO, HL, HLx, HLl, HB⟩ := hrel
      clear x0 x1 x2 x3 x4
      obtain ⟨x0, x1, x2, x3, x4⟩ := HK.out wr HB.out
      by_cases hlt : k < n
      · obtain ⟨g4, off, rfl, hbl, hcell⟩ := (HSL.out wr HB.out).2.2.2 (by omega)
        have h0 : wr.cell? ⟨g4, off + k, none⟩ = some (.int .u64 (l.getD k 0)) := hcell k hlt
        have hzm : l.getD k 0 ∈ l := by rw [List.getD_eq_getElem?_getD, List.getElem?_eq_getElem (by omega : k < l.length)]; exact List.getElem_mem (by omega : k < l.length)
        have hz := HLB.out _ hzm
        have HPT := Lib.hid (putL_take l k (by omega))
        clear hcell hzm
        generalize l.getD k 0 = z at h0 hz HPT
        have HPz := Lib.hid (fun W => refPut_new (z).toNat W (by omega))
        have hEz : (Leb.enc (Leb.szU (z).toNat) (((z).toNat : Nat) : Int)).length = Leb.szU (z).toNat + 1 := enc_len _ _
        have hExz : ∀ x ∈ Leb.enc (Leb.szU (z).toNat) (((z).toNat : Nat) : Int), x < 256 := Leb.enc_lt _ _
        have hszz := Leb.szU_le 9 (z).toNat (by omega)
        generalize Leb.enc (Leb.szU (z).toNat) (((z).toNat : Nat) : Int) = Ez at HPz hEz hExz HPT
        generalize Leb.szU (z).toNat = K0z at HPz hEz hszz
        rw [Int.toNat_of_nonneg (by omega)] at HPz
        obtain ⟨Kz, hKz⟩ : ∃ K, K = K0z + 1 := ⟨_, rfl⟩
        rw [← hKz] at HPz hEz
        have hK10z : Kz ≤ 10 ∧ 0 < Kz := by omega
        have HExz := Lib.hid hExz
        have HEz := Lib.hid hEz
        clear hKz hszz hExz hEz
        unfold PutNew at HPz
        go_wp2_with (first
          | (go_at_call 42; (with_reducible refine (HPz.out _).mono ?_); rintro e u5 ⟨p5, q5, rfl, hy5, hb5, hge5⟩; have HY5 := Lib.hid hy5; have HOk5 := Lib.hid (own_kept HO.out hb5); have HBk5 := Lib.hid (HB.out.trans (hb5.mono HB.out.size)); clear hy5 hb5 hge5)
          | (at_builtin; refine wpList_append_own _ rfl (.tmp 58) (.tmp 64) 27 rfl W0.heap.size 5 i0 _ 1 1 Tryz.underlying27 hi hz0 hz1 hz2 rfl (by decide) _ (m) _ rfl HOk5.out ⟨p5, 0, none⟩ Kz q5 (Ez.map U8) rfl (by simp [HEz.out]) (u8cells HY5.out) ?d1 ?d2 ?d3 ?d4 ?_))
        case d1 => intro u hu; rw [List.mem_map] at hu; obtain ⟨_, _, rfl⟩ := hu; rfl
        case d2 => unfold maxLen; omega
        case d3 => have := HY5.out.2.2.1; omega
        case d4 => exact HBk5.out.size
        intro v5 V5 ho5 hg5 _
        replace ho5 : V5.ownsRow W0.heap.size 5 1 v5 (m + Kz) ((L ++ Ez).map U8) := by simpa only [List.map_append, List.append_assoc] using ho5
        have HB5 : Hid (Below W0.heap.size W0 V5) := Lib.hid (own_below0 HBk5.out HOk5.out hg5 HBk5.out.size)
        have HX5 := Lib.hid (cat_lt HLx.out HExz.out)
        have HN5 := Lib.hid (len_two HLl.out HEz.out).symm
        have HL5 : Hid (L ++ Ez = headL cd ++ En ++ putL (l.take (k + 1))) := Lib.hid (by rw [HPT.out, HL.out, List.append_assoc])
        obtain ⟨g5, c5, e5, hnc5, hmc5⟩ := own_some ho5 (by omega)
        subst e5
        unfold maxLen at hmc5
        have HO5 := Lib.hid ho5
        clear ho5 hg5
        go_wp2
        go_roundw
        case rel => exact ⟨k + 1, g5, m + Kz, c5, L ++ Ez, by omega, by go_num, rfl, by omega, hnc5, by omega, by omega, HO5, HL5, HX5, HN5, HB5⟩
        case measure => simp [intOf]; omega
      · have hkn : k = n := by omega
        rw [List.take_of_length_le (by omega)] at HL
        go_wp2_with (first
          | (go_at_call 42; (with_reducible refine (HPa.out _).mono ?_); rintro e u6 ⟨p6, q6, rfl, hy6, hb6, hge6⟩; have HY6 := Lib.hid hy6; have HOk6 := Lib.hid (own_kept HO.out hb6); have HBk6 := Lib.hid (HB.out.trans (hb6.mono HB.out.size)); clear hy6 hb6 hge6)
          | (at_builtin; refine wpList_append_own _ rfl (.tmp 66) (.tmp 69) 27 rfl W0.heap.size 5 i0 _ 1 1 Tryz.underlying27 hi hz0 hz1 hz2 rfl (by decide) _ (m) _ rfl HOk6.out ⟨p6, 0, none⟩ Ka q6 (Ea.map U8) rfl (by simp [HEa.out]) (u8cells HY6.out) ?d1 ?d2 ?d3 ?d4 ?_))
        case d1 => intro u hu; rw [List.mem_map] at hu; obtain ⟨_, _, rfl⟩ := hu; rfl
        case d2 => unfold maxLen; omega
        case d3 => have := HY6.out.2.2.1; omega
        case d4 => exact HBk6.out.size
        intro v6 V6 ho6 hg6 _
        replace ho6 : V6.ownsRow W0.heap.size 5 1 v6 (m + Ka) ((L ++ Ea).map U8) := by simpa only [List.map_append, List.append_assoc] using ho6
        have HB6 : Hid (Below W0.heap.size W0 V6) := Lib.hid (own_below0 HBk6.out HOk6.out hg6 HBk6.out.size)
        have HX6 := Lib.hid (cat_lt HLx.out HExa.out)
        have HN6 := Lib.hid (len_two HLl.out HEa.out)
        obtain ⟨A6, c6, e6, hy6z⟩ := byt_any ho6 HN6.out.symm HX6.out (by omega)
        subst e6
        have HYz := Lib.hid hy6z
        clear ho6 hg6 hy6z
        go_wp2
        go_ret
        exact ⟨_, _, _, rfl, by rw [← List.append_assoc, ← List.append_assoc, ← HL.out]; exact HYz.out, by rw [← List.append_assoc, ← List.append_assoc, ← HL.out]; exact HN6.out, HB0.out.trans (HB6.out.mono HB0.out.size)⟩
  · have hge : (64512 : Int) ≤ cd := hhi.1
    have HP2 := Lib.hid (fun W => refPut_any (cd - 64512).toNat W (by omega))
    unfold PutPost at HP2
    have hl : headL cd = [252] ++ Leb.enc (Leb.szU (cd - 64512).toNat) (((cd - 64512).toNat : Nat) : Int) := by unfold headL; rw [if_neg (by omega)]; rfl
    have hE2 : (Leb.enc (Leb.szU (cd - 64512).toNat) (((cd - 64512).toNat : Nat) : Int)).length = Leb.szU (cd - 64512).toNat + 1 := enc_len _ _
    have hsz2 := Leb.szU_le 9 (cd - 64512).toNat (by omega)
    generalize Leb.enc (Leb.szU (cd - 64512).toNat) (((cd - 64512).toNat : Nat) : Int) = E2 at HP2 hE2 hl
    generalize Leb.szU (cd - 64512).toNat = K1 at HP2 hE2 hsz2
    rw [Int.toNat_of_nonneg (by omega)] at HP2
    obtain ⟨K2, hK2⟩ : ∃ K, K = K1 + 1 := ⟨_, rfl⟩
    rw [← hK2] at HP2 hE2
    obtain ⟨nh, hnh⟩ : ∃ z, z = 1 + K2 := ⟨_, rfl⟩
    have hnb : nh ≤ 20 ∧ 1 ≤ nh := by omega
    have hk210 : K2 ≤ 10 := by omega
    have HLn : Hid ((headL cd).length = nh) := Lib.hid (by rw [hl, List.length_append, hE2, hnh]; rfl)
    have HNH := Lib.hid hnh
    have HHd := Lib.hid hl
    have HE2 := Lib.hid hE2
    clear hl hK2 hnh hsz2 hE2
    go_enter Tryz.func18, Tryz.ntmps18
    go_upto_region 1 with fail
    rw [← HBX.out]
    rw [← HW0.out]
    go_upto_region 2 with fail
    generalize hV1 : W0.alloc _ = V1
    have hb1 : Below W0.heap.size W0 V1 := by rw [← hV1]; exact (Below.refl _ _).alloc (Nat.le_refl _) _
    obtain ⟨y0, y1, y2, y3, y4⟩ := HK.out V1 hb1
    have HB1' := Lib.hid hb1
    clear hV1 hb1 z0 z1 z2 z3 z4
    have y9 : (V1.alloc (.cells #[.int .u8 252] 5)).cell? ⟨bx, 0, none⟩ = some (.int .i64 cd) := (HK.out _ (HB1'.out.alloc HB1'.out.size _)).1
    go_upto_region 4 with (first
      | (go_at_call 42; (with_reducible refine (HP2.out _).mono ?_); rintro e w2 ⟨g2, c2, rfl, hy2, hb2⟩
         have HYh := Lib.hid hy2
         have HOh : Hid (w2.ownsRow W0.heap.size 5 1 (.slice (some ⟨V1.heap.size, 0, none⟩) 1 1) 1 ([252].map U8)) := Lib.hid (own_kept ⟨by simp, .inr ⟨V1.heap.size, 1, _, rfl, HB1'.out.size, heap_alloc_new V1 _, Nat.le_refl _, by unfold maxLen; omega, by simp, by simp [U8]⟩⟩ hb2)
         have HBh := Lib.hid ((HB1'.out.alloc HB1'.out.size _).trans (hb2.mono (HB1'.out.alloc HB1'.out.size _).size))
         clear hy2 hb2)
      | (at_builtin; refine wpList_append_own _ rfl (.tmp 13) (.tmp 18) 27 rfl W0.heap.size 5 i0 _ 1 1 Tryz.underlying27 hi hz0 hz1 hz2 rfl (by decide) _ 1 _ rfl HOh.out ⟨g2, 0, none⟩ K2 c2 (E2.map U8) rfl (by simp [HE2.out]) (u8cells HYh.out) ?d1 ?d2 ?d3 ?d4 ?_))
    case d1 => intro u hu; rw [List.mem_map] at hu; obtain ⟨_, _, rfl⟩ := hu; rfl
    case d2 => unfold maxLen; omega
    case d3 => have := HYh.out.2.2.1; omega
    case d4 => exact HBh.out.size
    intro v5 V ho5 hg5 _
    replace ho5 : V.ownsRow W0.heap.size 5 1 v5 nh ((headL cd).map U8) := by rw [HHd.out, List.map_append, HNH.out]; exact ho5
    have HB1 : Hid (Below W0.heap.size W0 V) := Lib.hid (own_below0 HBh.out HOh.out hg5 HBh.out.size)
    obtain ⟨g1, c1, e5, hnc, hmc⟩ := own_some ho5 (by omega)
    subst e5
    have HO1 := Lib.hid ho5
    unfold maxLen at hmc
    have hnc : nh ≤ c1 ∧ c1 ≤ 9223372036854775807 := ⟨hnc, by omega⟩
    clear ho5 hg5 y0 y1 y2 y3 y4 y9 hmc
    obtain ⟨y0, y1, y2, y3, y4⟩ := HK.out V HB1.out
    clear HP2
    go_upto_region 4 with fail
    go_upto_region 5 with (go_at_call 37; refine (HF.out _).mono ?_; rintro e w1 ⟨rfl, rfl⟩)
    subst hfo
    obtain ⟨b0, b1, b2, b3, b4⟩ := HK.out V HB1.out
    clear y0 y1 y2 y3 y4
    go_upto_region 14 with fail
    go_upto_region 15 with (first
      | (go_at_call 42; (with_reducible refine (HPn.out _).mono ?_); rintro e u2 ⟨p2, q2, rfl, hy2, hb2, hge2⟩; have HY2 := Lib.hid hy2; have HOk2 := Lib.hid (own_kept HO1.out hb2); have HBk2 := Lib.hid (HB1.out.trans (hb2.mono HB1.out.size)); clear hy2 hb2 hge2)
      | (at_builtin; refine wpList_append_own _ rfl (.tmp 44) (.tmp 49) 27 rfl W0.heap.size 5 i0 _ 1 1 Tryz.underlying27 hi hz0 hz1 hz2 rfl (by decide) _ (nh) _ rfl HOk2.out ⟨p2, 0, none⟩ Kn q2 (En.map U8) rfl (by simp [HEn.out]) (u8cells HY2.out) ?d1 ?d2 ?d3 ?d4 ?_))
    case d1 => intro u hu; rw [List.mem_map] at hu; obtain ⟨_, _, rfl⟩ := hu; rfl
    case d2 => unfold maxLen; omega
    case d3 => have := HY2.out.2.2.1; omega
    case d4 => exact HBk2.out.size
    intro v2 V2 ho2 hg2 _
    replace ho2 : V2.ownsRow W0.heap.size 5 1 v2 (nh + Kn) ((headL cd ++ En).map U8) := by simpa only [List.map_append, List.append_assoc] using ho2
    have HB2 : Hid (Below W0.heap.size W0 V2) := Lib.hid (own_below0 HBk2.out HOk2.out hg2 HBk2.out.size)
    have HX2 := Lib.hid (cat_lt HHL.out HExn.out)
    have HN2 := Lib.hid (len_two HLn.out HEn.out)
    have HM0 : Hid ((headL cd ++ En).length = nh + Kn) := Lib.hid HN2.out.symm
    obtain ⟨g2, c2, e2, hnc2, hmc2⟩ := own_some ho2 (by omega)
    subst e2
    unfold maxLen at hmc2
    have HO2 := Lib.hid ho2
    clear ho2 hg2
    clear b0 b1 b2 b3 b4
    obtain ⟨x0, x1, x2, x3, x4⟩ := HK.out V2 HB2.out
    go_upto_region 15 with fail
    go_wp2
    go_loopw [3, 4] (fun v3 v4 wr => ∃ (k g m cp : Nat) (L : List Nat), k ≤ n ∧ v4 = .int .i64 k ∧ v3 = .slice (some ⟨g, 0, none⟩) m cp ∧ m ≤ 30 + 10 * k ∧ m ≤ cp ∧ cp ≤ 9223372036854775807 ∧ 0 < m ∧ Hid (wr.ownsRow W0.heap.size 5 1 (.slice (some ⟨g, 0, none⟩) m cp) m (L.map U8)) ∧ Hid (L = headL cd ++ En ++ putL (l.take k)) ∧ Hid (∀ x ∈ L, x < 256) ∧ Hid (L.length = m) ∧ Hid (Below W0.heap.size W0 wr)) (fun _ v4 _ => n - (intOf v4).toNat)
    case atStart => exact ⟨0, g2, nh + Kn, c2, headL cd ++ En, by omega, rfl, rfl, by omega, hnc2, by omega, by omega, HO2, Lib.hid (by simp [putL]), HX2, HM0, HB2⟩
    case round =>
      obtain ⟨k, g, m, cp, L, hk, rfl, rfl, hmk, hmc, hcm, hm0, HO, HL, HLx, HLl, HB⟩ := hrel
      clear x0 x1 x2 x3 x4
      obtain ⟨x0, x1, x2, x3, x4⟩ := HK.out wr HB.out
      by_cases hlt : k < n
      · obtain ⟨g4, off, rfl, hbl, hcell⟩ := (HSL.out wr HB.out).2.2.2 (by omega)
        have h0 : wr.cell? ⟨g4, off + k, none⟩ = some (.int .u64 (l.getD k 0)) := hcell k hlt
        have hzm : l.getD k 0 ∈ l := by rw [List.getD_eq_getElem?_getD, List.getElem?_eq_getElem (by omega : k < l.length)]; exact List.getElem_mem (by omega : k < l.length)
        have hz := HLB.out _ hzm
        have HPT := Lib.hid (putL_take l k (by omega))
        clear hcell hzm
        generalize l.getD k 0 = z at h0 hz HPT
        have HPz := Lib.hid (fun W => refPut_new (z).toNat W (by omega))
        have hEz : (Leb.enc (Leb.szU (z).toNat) (((z).toNat : Nat) : Int)).length = Leb.szU (z).toNat + 1 := enc_len _ _
        have hExz : ∀ x ∈ Leb.enc (Leb.szU (z).toNat) (((z).toNat : Nat) : Int), x < 256 := Leb.enc_lt _ _
        have hszz := Leb.szU_le 9 (z).toNat (by omega)
        generalize Leb.enc (Leb.szU (z).toNat) (((z).toNat : Nat) : Int) = Ez at HPz hEz hExz HPT
        generalize Leb.szU (z).toNat = K0z at HPz hEz hszz
        rw [Int.toNat_of_nonneg (by omega)] at HPz
        obtain ⟨Kz, hKz⟩ : ∃ K, K = K0z + 1 := ⟨_, rfl⟩
        rw [← hKz] at HPz hEz
        have hK10z : Kz ≤ 10 ∧ 0 < Kz := by omega
        have HExz := Lib.hid hExz
        have HEz := Lib.hid hEz
        clear hKz hszz hExz hEz
        unfold PutNew at HPz
        go_wp2_with (first
          | (go_at_call 42; (with_reducible refine (HPz.out _).mono ?_); rintro e u5 ⟨p5, q5, rfl, hy5, hb5, hge5⟩; have HY5 := Lib.hid hy5; have HOk5 := Lib.hid (own_kept HO.out hb5); have HBk5 := Lib.hid (HB.out.trans (hb5.mono HB.out.size)); clear hy5 hb5 hge5)
          | (at_builtin; refine wpList_append_own _ rfl (.tmp 58) (.tmp 64) 27 rfl W0.heap.size 5 i0 _ 1 1 Tryz.underlying27 hi hz0 hz1 hz2 rfl (by decide) _ (m) _ rfl HOk5.out ⟨p5, 0, none⟩ Kz q5 (Ez.map U8) rfl (by simp [HEz.out]) (u8cells HY5.out) ?d1 ?d2 ?d3 ?d4 ?_))
        case d1 => intro u hu; rw [List.mem_map] at hu; obtain ⟨_, _, rfl⟩ := hu; rfl
        case d2 => unfold maxLen; omega
        case d3 => have := HY5.out.2.2.1; omega
        case d4 => exact HBk5.out.size
        intro v5 V5 ho5 hg5 _
        replace ho5 : V5.ownsRow W0.heap.size 5 1 v5 (m + Kz) ((L ++ Ez).map U8) := by simpa only [List.map_append, List.append_assoc] using ho5
        have HB5 : Hid (Below W0.heap.size W0 V5) := Lib.hid (own_below0 HBk5.out HOk5.out hg5 HBk5.out.size)
        have HX5 := Lib.hid (cat_lt HLx.out HExz.out)
        have HN5 := Lib.hid (len_two HLl.out HEz.out).symm
        have HL5 : Hid (L ++ Ez = headL cd ++ En ++ putL (l.take (k + 1))) := Lib.hid (by rw [HPT.out, HL.out, List.append_assoc])
        obtain ⟨g5, c5, e5, hnc5, hmc5⟩ := own_some ho5 (by omega)
        subst e5
        unfold maxLen at hmc5
        have HO5 := Lib.hid ho5
        clear ho5 hg5
        go_wp2
        go_roundw
        case rel => exact ⟨k + 1, g5, m + Kz, c5, L ++ Ez, by omega, by go_num, rfl, by omega, hnc5, by omega, by omega, HO5, HL5, HX5, HN5, HB5⟩
        case measure => simp [intOf]; omega
      · have hkn : k = n := by omega
        rw [List.take_of_length_le (by omega)] at HL
        go_wp2_with (first
          | (go_at_call 42; (with_reducible refine (HPa.out _).mono ?_); rintro e u6 ⟨p6, q6, rfl, hy6, hb6, hge6⟩; have HY6 := Lib.hid hy6; have HOk6 := Lib.hid (own_kept HO.out hb6); have HBk6 := Lib.hid (HB.out.trans (hb6.mono HB.out.size)); clear hy6 hb6 hge6)
          | (at_builtin; refine wpList_append_own _ rfl (.tmp 66) (.tmp 69) 27 rfl W0.heap.size 5 i0 _ 1 1 Tryz.underlying27 hi hz0 hz1 hz2 rfl (by decide) _ (m) _ rfl HOk6.out ⟨p6, 0, none⟩ Ka q6 (Ea.map U8) rfl (by simp [HEa.out]) (u8cells HY6.out) ?d1 ?d2 ?d3 ?d4 ?_))
        case d1 => intro u hu; rw [List.mem_map] at hu; obtain ⟨_, _, rfl⟩ := hu; rfl
        case d2 => unfold maxLen; omega
        case d3 => have := HY6.out.2.2.1; omega
        case d4 => exact HBk6.out.size
        intro v6 V6 ho6 hg6 _
        replace ho6 : V6.ownsRow W0.heap.size 5 1 v6 (m + Ka) ((L ++ Ea).map U8) := by simpa only [List.map_append, List.append_assoc] using ho6
        have HB6 : Hid (Below W0.heap.size W0 V6) := Lib.hid (own_below0 HBk6.out HOk6.out hg6 HBk6.out.size)
        have HX6 := Lib.hid (cat_lt HLx.out HExa.out)
        have HN6 := Lib.hid (len_two HLl.out HEa.out)
        obtain ⟨A6, c6, e6, hy6z⟩ := byt_any ho6 HN6.out.symm HX6.out (by omega)
        subst e6
        have HYz := Lib.hid hy6z
        clear ho6 hg6 hy6z
        go_wp2
        go_ret
        exact ⟨_, _, _, rfl, by rw [← List.append_assoc, ← List.append_assoc, ← HL.out]; exact HYz.out, by rw [← List.append_assoc, ← List.append_assoc, ← HL.out]; exact HN6.out, HB0.out.trans (HB6.out.mono HB0.out.size)⟩
end Go.Proofs.YtggfaalodojjkaaGreatDoor
namespace Go.Proofs.YtggfaalodojjkaaGreatDoor
open Go.RowKit
set_option linter.unusedVariables false
set_option linter.unusedSimpArgs false
theorem bk_right {x : In} {r : Rw} (h : rightI x r) (h1 : r.form = 1) : x.a = 64 ∨ x.a = 127 ∨ x.a = 126 := by
  obtain ⟨k, hk, hi, hb⟩ := h
  unfold riB at hb
  simp only [Bool.and_eq_true, h1, decide_true, Bool.true_and, Bool.not_not] at hb
  have h2 := hb.2
  unfold bkB at h2
  simpa [or_assoc] using h2
theorem wrap64_sgn (a : Int) (h : 0 ≤ a ∧ a < 18446744073709551616) : wrap64 a = Wd.sgn 64 a.toNat := by
  unfold Wd.sgn
  rw [if_neg (show ¬ (64 : Int) = 32 by decide)]
  simp only [wrap64]
  split <;> omega
theorem enc18_any (x : In) (r : Rw) (hr : rightI x r) (hx : InW x) (A : Option Addr) (c : Nat) (w : World) (hl : Sl w A x.l.length c x.l) :
    Calls Tryz.prog 18 #[.agg (I5 x (.slice A x.l.length c)).toArray] w (EnR (encL x r) w) := by
  obtain ⟨i, ho⟩ := right_op hr
  have hcd := code_in ho
  have hfo := form_in ho
  obtain ⟨b0, bB, bal, bl, bal0, bal31, bln, b11⟩ := right_bn hr hx
  obtain ⟨hm, hcd2, _, _, _, _, _, bL⟩ := right_facts hr
  have hbk := bk_right (x := x) hr
  have h11 := (row_small r hm).2.2
  have hw := fun q => wide_in ho q
  obtain ⟨x1, x2, x3, x4, x5⟩ := hx
  obtain ⟨cd, a, b, al, l⟩ := x
  dsimp only at *
  have hcon : r.form = 11 → conI ⟨cd, a, b, al, l⟩ r = Wd.sgn (btT (r.gives.getD 0 0)) a.toNat := fun _ => rfl
  unfold encL
  dsimp only
  have hc : r.form = 0 ∨ r.form = 1 ∨ r.form = 2 ∨ r.form = 3 ∨ r.form = 4 ∨ r.form = 5 ∨ r.form = 6 ∨ r.form = 7 ∨ r.form = 8 ∨ r.form = 9 ∨ r.form = 10 ∨ r.form = 11 := by omega
  have hone : ∀ f, r.form = f → (f = 2 ∨ f = 4 ∨ f = 6 ∨ f = 7 ∨ f = 9) → Calls Tryz.prog 18 #[.agg #[.int .i64 cd, .int .u64 a, .int .u64 b, .int .i64 al, .slice A l.length c]] w (EnR (headL cd ++ putL (numI ⟨cd, a, b, al, l⟩ f)) w) := by
    intro f hf h
    have e : putL (numI ⟨cd, a, b, al, l⟩ f) = Leb.enc (Leb.szU a.toNat) a.toNat := by
      unfold numI
      rcases h with rfl | rfl | rfl | rfl | rfl <;> simp [putL]
    rw [e]
    exact enc18_one cd a b al A l.length c w hcd x2 (by omega)
  rcases hc with e | e | e | e | e | e | e | e | e | e | e | e
  · rw [e]
    show Calls Tryz.prog 18 #[.agg #[.int .i64 cd, .int .u64 a, .int .u64 b, .int .i64 al, .slice A l.length c]] w (EnR (headL cd ++ []) w)
    rw [List.append_nil]
    exact enc18_none cd a b al A l.length c w hcd x2 (by omega)
  · rw [e]
    have h3 := hbk e
    have hp : putL (numI ⟨cd, a, b, al, l⟩ 1) = [a.toNat] := by
      have e1 : numI ⟨cd, a, b, al, l⟩ 1 = [a] := by simp [numI]
      rw [e1]
      show Leb.enc (Leb.szU a.toNat) a.toNat ++ [] = _
      rw [List.append_nil, Leb.szU_lo _ (by omega)]
      show [((a.toNat : Int) % 128).toNat] = _
      congr 1
      omega
    rw [if_neg (by omega), hp]
    exact enc18_block cd a b al A l.length c w hcd (by omega) (by omega)
  · rw [e, if_neg (by omega)]; exact hone 2 e (by omega)
  · rw [e, if_neg (by omega)]
    have hp : putL (numI ⟨cd, a, b, al, l⟩ 3) = Leb.enc (Leb.szU (l.length : Int).toNat) (l.length : Int).toNat ++ (putL l ++ Leb.enc (Leb.szU a.toNat) a.toNat) := by
      have e1 : numI ⟨cd, a, b, al, l⟩ 3 = [(l.length : Int)] ++ l ++ [a] := by simp [numI]
      rw [e1, putL_app, putL_app]
      simp [putL]
    rw [hp]
    exact enc18_labels cd a b al A l.length c l w hl rfl hcd x2 (by omega) x4 bln
  · rw [e, if_neg (by omega)]; exact hone 4 e (by omega)
  · rw [e, if_neg (by omega)]
    have hp : putL (numI ⟨cd, a, b, al, l⟩ 5) = Leb.enc (Leb.szU a.toNat) a.toNat ++ Leb.enc (Leb.szU b.toNat) b.toNat := by simp [numI, putL]
    rw [hp]
    exact enc18_two cd a b al A l.length c w hcd x2 x3 (by omega)
  · rw [e, if_neg (by omega)]; exact hone 6 e (by omega)
  · rw [e, if_neg (by omega)]; exact hone 7 e (by omega)
  · rw [e, if_neg (by omega)]
    by_cases ha : a = 0
    · have hp : putL (numI ⟨cd, a, b, al, l⟩ 8) = Leb.enc (Leb.szU al.toNat) al.toNat ++ Leb.enc (Leb.szU b.toNat) b.toNat := by simp [numI, putL, ha]
      rw [hp]
      exact enc18_mem0 cd a b al A l.length c w hcd x2 x3 ⟨bal0, bal31⟩ (by omega) ha
    · have hp : putL (numI ⟨cd, a, b, al, l⟩ 8) = Leb.enc (Leb.szU (64 + al).toNat) (64 + al).toNat ++ (Leb.enc (Leb.szU a.toNat) a.toNat ++ Leb.enc (Leb.szU b.toNat) b.toNat) := by simp [numI, putL, ha]
      rw [hp]
      exact enc18_mem cd a b al A l.length c w hcd x2 x3 ⟨bal0, bal31⟩ (by omega) ha
  · rw [e, if_neg (by omega)]; exact hone 9 e (by omega)
  · rw [e, if_neg (by omega)]
    have hp : putL (numI ⟨cd, a, b, al, l⟩ 10) = Leb.enc (Leb.szU a.toNat) a.toNat ++ Leb.enc (Leb.szU b.toNat) b.toNat := by simp [numI, putL]
    rw [hp]
    exact enc18_two cd a b al A l.length c w hcd x2 x3 (by omega)
  · rw [if_pos e, hcon e]
    have hv := sgn_in (btT (r.gives.getD 0 0)) a.toNat (by omega)
    refine enc18_const cd a b al A l.length c w hcd x2 (by omega) _ hv ?_
    rcases hw e with ⟨q1, q2⟩ | ⟨q1, q2⟩
    · have ha := b11 e q1
      rw [q1]
      have e1 : ((btT ([127].getD 0 0) : Nat) : Int) = 32 := rfl
      rw [e1]
      unfold Wd.sgn
      rw [if_pos rfl]
      by_cases h : a < 2147483648
      · exact .inl ⟨q2, h, by rw [if_pos (by omega)]; omega⟩
      · exact .inr (.inl ⟨q2, by omega, ha, by rw [if_neg (by omega)]; omega⟩)
    · rw [q1]
      have e1 : ((btT ([126].getD 0 0) : Nat) : Int) = 64 := rfl
      rw [e1]
      exact .inr (.inr ⟨by simpa using q2, wrap64_sgn a x2⟩)
end Go.Proofs.YtggfaalodojjkaaGreatDoor
