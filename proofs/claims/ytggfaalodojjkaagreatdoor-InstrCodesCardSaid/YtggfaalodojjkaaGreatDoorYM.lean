/-
  Texts of YtggfaalodojjkaaGreatDoorYM.
-/
import Derived.Test.YtggfaalodojjkaaGreatDoorYL
import Derived.Deep.RegionHeld3
namespace Go.Proofs.YtggfaalodojjkaaGreatDoor
open Go.RowKit
set_option linter.unusedVariables false
set_option linter.unusedSimpArgs false
set_option maxHeartbeats 4000000 in
set_option maxRecDepth 100000 in
theorem enc18_none (cd a b al : Int) (A : Option Addr) (n c : Nat) (w : World) (hcd : (0 ≤ cd ∧ cd < 252) ∨ (64512 ≤ cd ∧ cd < 100000)) (ha : 0 ≤ a ∧ a < 18446744073709551616) (hfo : formL cd = 0) :
    Calls Tryz.prog 18 #[.agg #[.int .i64 cd, .int .u64 a, .int .u64 b, .int .i64 al, .slice A n c]] w (EnR (headL cd) w) := by
  obtain ⟨i0, hi, hz0, hz1, hz2⟩ := info_parts info5
  obtain ⟨W0, hW0⟩ : ∃ V, V = w.alloc (.cells #[.int .i64 cd, .int .u64 a, .int .u64 b, .int .i64 al, .slice A n c] 25) := ⟨_, rfl⟩
  obtain ⟨bx, hbx⟩ : ∃ x, x = w.heap.size := ⟨_, rfl⟩
  have hb0 : Below w.heap.size w W0 := by rw [hW0]; exact (Below.refl _ _).alloc (Nat.le_refl _) _
  have hX0 : Blk W0 bx 25 #[.int .i64 cd, .int .u64 a, .int .u64 b, .int .i64 al, .slice A n c] := by rw [hW0, hbx]; exact Blk.new w 25 _
  have HK : Hid (∀ V, Below W0.heap.size W0 V → V.cell? ⟨bx, 0, none⟩ = some (.int .i64 cd) ∧ V.cell? ⟨bx, 1, none⟩ = some (.int .u64 a)) := Lib.hid (fun V hV => by
    have h1 := hX0.below hV hX0.lt
    exact ⟨h1.cell 0, h1.cell 1⟩)
  have HB0 := Lib.hid hb0
  have HW0 := Lib.hid hW0
  have HBX := Lib.hid hbx
  obtain ⟨fo, hfl⟩ : ∃ z, z = formL cd := ⟨_, rfl⟩
  have HF := Lib.hid (fun W => RForm_any cd ⟨by omega, by omega⟩ W)
  rw [← hfl] at HF hfo
  have HHL := Lib.hid (headL_lt cd)
  have HHP := Lib.hid (headL_pos cd)
  unfold EnR
  obtain ⟨z0, z1⟩ := HK.out W0 (Below.refl _ _)
  have hss : Hid (W0.heap.size = bx + 1) := Lib.hid (by rw [hW0, hbx]; simp)
  clear hb0 hX0 hW0 hbx hfl
  rcases hcd with hlo | hhi
  · have hl : headL cd = [cd.toNat] := by unfold headL; rw [if_pos (by omega), show cd % 256 = cd by omega]
    have hw : IntKind.u8.wrap cd = cd := by simp only [IntKind.wrap, IntKind.bits, IntKind.signed]; simp; omega
    have hge : ¬ (64512 : Int) ≤ cd := by omega
    go_enter Tryz.func18, Tryz.ntmps18
    go_upto_region 1 with fail
    rw [← HBX.out]
    rw [← HW0.out]
    go_upto_region 2 with fail
    obtain ⟨V1, hV1⟩ : ∃ V, V = W0.alloc (.cells #[.int .u8 cd] 5) := ⟨_, rfl⟩
    obtain ⟨bg, hbg⟩ : ∃ z, z = W0.heap.size := ⟨_, rfl⟩
    have hb1 : Below W0.heap.size W0 V1 := by rw [hV1]; exact (Below.refl _ _).alloc (Nat.le_refl _) _
    have hG : V1.ownsRow W0.heap.size 5 1 (.slice (some ⟨bg, 0, none⟩) 1 1) 1 ((headL cd).map U8) := by
      rw [hl]
      refine ⟨by simp, .inr ⟨bg, 1, _, rfl, by omega, by rw [hV1, hbg]; exact heap_alloc_new W0 _, Nat.le_refl _, by unfold maxLen; omega, by simp, ?_⟩⟩
      simp [U8]
      omega
    rw [← hV1, ← hbg]
    have HO1 := Lib.hid hG
    have HB1 := Lib.hid hb1
    obtain ⟨y0, y1⟩ := HK.out V1 hb1
    have HLn : Hid ((headL cd).length = 1) := Lib.hid (by rw [hl]; rfl)
    have hs1 : bg ≤ V1.heap.size := by rw [hbg]; exact hb1.size
    have HBG := Lib.hid hbg
    clear hV1 hG hb1 z0 z1 hbg hl
    go_upto_region 5 with (go_at_call 37; refine (HF.out _).mono ?_; rintro e w1 ⟨rfl, rfl⟩)
    subst hfo
    obtain ⟨A3, c3, e3, hy3⟩ := byt_any HO1.out HLn.out HHL.out (by omega)
    injection e3 with e31 e32 e33
    have HY3 : Hid (Byt _ A3 1 c3 (headL cd)) := Lib.hid hy3
    rw [← e31, ← e33] at HY3
    clear hy3 e31 e32 e33
    go_wp2
    go_ret
    exact ⟨_, _, _, rfl, HY3.out, HLn.out.symm, HB0.out.trans (HB1.out.mono HB0.out.size)⟩
  · have hge : (64512 : Int) ≤ cd := hhi.1
    have HP2 := Lib.hid (fun W => refPut_any (cd - 64512).toNat W (by omega))
    unfold PutPost at HP2
    have hl : headL cd = [252] ++ Leb.enc (Leb.szU (cd - 64512).toNat) (((cd - 64512).toNat : Nat) : Int) := by unfold headL; rw [if_neg (by omega)]; rfl
    have hE2 : (Leb.enc (Leb.szU (cd - 64512).toNat) (((cd - 64512).toNat : Nat) : Int)).length = Leb.szU (cd - 64512).toNat + 1 := enc_len _ _
    have hsz2 := Leb.szU_le 9 (cd - 64512).toNat (by omega)
    generalize Leb.enc (Leb.szU (cd - 64512).toNat) (((cd - 64512).toNat : Nat) : Int) = E2 at HP2 hE2 hl
    generalize Leb.szU (cd - 64512).toNat = K1 at HP2 hE2 hsz2
    rw [Int.toNat_of_nonneg (by omega)] at HP2
    obtain ⟨K2, hK2⟩ : ∃ K, K = K1 + 1 := ⟨_, rfl⟩
    rw [← hK2] at HP2 hE2
    obtain ⟨nh, hnh⟩ : ∃ z, z = 1 + K2 := ⟨_, rfl⟩
    have hnb : nh ≤ 20 ∧ K2 ≤ 10 ∧ 1 ≤ nh := by omega
    obtain ⟨hnh20, hk210, hnh1⟩ := hnb
    have HLn : Hid ((headL cd).length = nh) := Lib.hid (by rw [hl, List.length_append, hE2, hnh]; rfl)
    have HNH := Lib.hid hnh
    have HHd := Lib.hid hl
    have HE2 := Lib.hid hE2
    clear hl hK2 hnh hsz2 hE2
    go_enter Tryz.func18, Tryz.ntmps18
    go_upto_region 1 with fail
    rw [← HBX.out]
    rw [← HW0.out]
    go_upto_region 2 with fail
    generalize hV1 : W0.alloc _ = V1
    have hb1 : Below W0.heap.size W0 V1 := by rw [← hV1]; exact (Below.refl _ _).alloc (Nat.le_refl _) _
    obtain ⟨y0, y1⟩ := HK.out V1 hb1
    have HB1' := Lib.hid hb1
    clear hV1 hb1 z0 z1
    have y9 : (V1.alloc (.cells #[.int .u8 252] 5)).cell? ⟨bx, 0, none⟩ = some (.int .i64 cd) := (HK.out _ (HB1'.out.alloc HB1'.out.size _)).1
    go_upto_region 4 with (first
      | (go_at_call 42; (with_reducible refine (HP2.out _).mono ?_); rintro e w2 ⟨g2, c2, rfl, hy2, hb2⟩
         have HYh := Lib.hid hy2
         have HOh : Hid (w2.ownsRow W0.heap.size 5 1 (.slice (some ⟨V1.heap.size, 0, none⟩) 1 1) 1 ([252].map U8)) := Lib.hid (own_kept ⟨by simp, .inr ⟨V1.heap.size, 1, _, rfl, HB1'.out.size, heap_alloc_new V1 _, Nat.le_refl _, by unfold maxLen; omega, by simp, by simp [U8]⟩⟩ hb2)
         have HBh := Lib.hid ((HB1'.out.alloc HB1'.out.size _).trans (hb2.mono (HB1'.out.alloc HB1'.out.size _).size))
         clear hy2 hb2)
      | (at_builtin; refine wpList_append_own _ rfl (.tmp 13) (.tmp 18) 27 rfl W0.heap.size 5 i0 _ 1 1 Tryz.underlying27 hi hz0 hz1 hz2 rfl (by decide) _ 1 _ rfl HOh.out ⟨g2, 0, none⟩ K2 c2 (E2.map U8) rfl (by simp [HE2.out]) (u8cells HYh.out) ?d1 ?d2 ?d3 ?d4 ?_))
    case d1 => intro u hu; rw [List.mem_map] at hu; obtain ⟨_, _, rfl⟩ := hu; rfl
    case d2 => unfold maxLen; omega
    case d3 => have := HYh.out.2.2.1; omega
    case d4 => exact HBh.out.size
    intro v5 w5 ho5 hg5 _
    replace ho5 : w5.ownsRow W0.heap.size 5 1 v5 nh ((headL cd).map U8) := by rw [HHd.out, List.map_append, HNH.out]; exact ho5
    have HB1 : Hid (Below W0.heap.size W0 w5) := Lib.hid (own_below0 HBh.out HOh.out hg5 HBh.out.size)
    obtain ⟨g5, cp5, e5, _, _⟩ := own_some ho5 (by omega)
    subst e5
    have HO1 := Lib.hid ho5
    obtain ⟨x0, x1⟩ := HK.out w5 HB1.out
    clear ho5 hg5 y0 y1 y9
    go_upto_region 4 with fail
    go_upto_region 5 with (go_at_call 37; refine (HF.out _).mono ?_; rintro e w1 ⟨rfl, rfl⟩)
    subst hfo
    obtain ⟨A3, c3, e3, hy3⟩ := byt_any HO1.out HLn.out HHL.out (by omega)
    injection e3 with e31 e32 e33
    have HY3 : Hid (Byt _ A3 nh c3 (headL cd)) := Lib.hid hy3
    rw [← e31, ← e33] at HY3
    clear hy3 e31 e32 e33
    go_wp2
    go_ret
    exact ⟨_, _, _, rfl, HY3.out, HLn.out.symm, HB0.out.trans (HB1.out.mono HB0.out.size)⟩
end Go.Proofs.YtggfaalodojjkaaGreatDoor
namespace Go.Proofs.YtggfaalodojjkaaGreatDoor
open Go.RowKit
set_option linter.unusedVariables false
set_option linter.unusedSimpArgs false
set_option maxHeartbeats 4000000 in
set_option maxRecDepth 100000 in
theorem enc18_const (cd a b al : Int) (A : Option Addr) (n c : Nat) (w : World) (hcd : (0 ≤ cd ∧ cd < 252) ∨ (64512 ≤ cd ∧ cd < 100000)) (ha : 0 ≤ a ∧ a < 18446744073709551616) (hfo : formL cd = 11) (v : Int) (hvb : -9223372036854775808 ≤ v ∧ v < 9223372036854775808) (hv : (cd = 65 ∧ a < 2147483648 ∧ a = v) ∨ (cd = 65 ∧ 2147483648 ≤ a ∧ a ≤ 4294967295 ∧ a - 4294967296 = v) ∨ ((cd == 65) = false ∧ wrap64 a = v)) :
    Calls Tryz.prog 18 #[.agg #[.int .i64 cd, .int .u64 a, .int .u64 b, .int .i64 al, .slice A n c]] w (EnR (headL cd ++ Leb.enc (Leb.szS v) v) w) := by
  obtain ⟨i0, hi, hz0, hz1, hz2⟩ := info_parts info5
  obtain ⟨W0, hW0⟩ : ∃ V, V = w.alloc (.cells #[.int .i64 cd, .int .u64 a, .int .u64 b, .int .i64 al, .slice A n c] 25) := ⟨_, rfl⟩
  obtain ⟨bx, hbx⟩ : ∃ x, x = w.heap.size := ⟨_, rfl⟩
  have hb0 : Below w.heap.size w W0 := by rw [hW0]; exact (Below.refl _ _).alloc (Nat.le_refl _) _
  have hX0 : Blk W0 bx 25 #[.int .i64 cd, .int .u64 a, .int .u64 b, .int .i64 al, .slice A n c] := by rw [hW0, hbx]; exact Blk.new w 25 _
  have HK : Hid (∀ V, Below W0.heap.size W0 V → V.cell? ⟨bx, 0, none⟩ = some (.int .i64 cd) ∧ V.cell? ⟨bx, 1, none⟩ = some (.int .u64 a)) := Lib.hid (fun V hV => by
    have h1 := hX0.below hV hX0.lt
    exact ⟨h1.cell 0, h1.cell 1⟩)
  have HB0 := Lib.hid hb0
  have HW0 := Lib.hid hW0
  have HBX := Lib.hid hbx
  obtain ⟨fo, hfl⟩ : ∃ z, z = formL cd := ⟨_, rfl⟩
  have HF := Lib.hid (fun W => RForm_any cd ⟨by omega, by omega⟩ W)
  rw [← hfl] at HF hfo
  have HP := Lib.hid (fun W => refPutS_any v W hvb.1 hvb.2)
  have hE : (Leb.enc (Leb.szS v) v).length = Leb.szS v + 1 := enc_len _ _
  have hEx : ∀ x ∈ Leb.enc (Leb.szS v) v, x < 256 := Leb.enc_lt _ _
  have hsz := Leb.szS_le 9 v (by omega) (by omega)
  generalize Leb.enc (Leb.szS v) v = E at HP hE hEx ⊢
  generalize Leb.szS v = K0 at HP hE hsz
  obtain ⟨K, hK⟩ : ∃ K, K = K0 + 1 := ⟨_, rfl⟩
  rw [← hK] at HP hE
  have hK10 : K ≤ 10 := by omega
  have HEx := Lib.hid hEx
  clear hK hsz hEx
  have HHL := Lib.hid (headL_lt cd)
  have HHP := Lib.hid (headL_pos cd)
  unfold PutPost at HP
  unfold EnR
  obtain ⟨z0, z1⟩ := HK.out W0 (Below.refl _ _)
  have hss : Hid (W0.heap.size = bx + 1) := Lib.hid (by rw [hW0, hbx]; simp)
  clear hb0 hX0 hW0 hbx hfl
  rcases hcd with hlo | hhi
  · have hl : headL cd = [cd.toNat] := by unfold headL; rw [if_pos (by omega), show cd % 256 = cd by omega]
    have hw : IntKind.u8.wrap cd = cd := by simp only [IntKind.wrap, IntKind.bits, IntKind.signed]; simp; omega
    have hge : ¬ (64512 : Int) ≤ cd := by omega
    go_enter Tryz.func18, Tryz.ntmps18
    go_upto_region 1 with fail
    rw [← HBX.out]
    rw [← HW0.out]
    go_upto_region 2 with fail
    obtain ⟨V1, hV1⟩ : ∃ V, V = W0.alloc (.cells #[.int .u8 cd] 5) := ⟨_, rfl⟩
    obtain ⟨bg, hbg⟩ : ∃ z, z = W0.heap.size := ⟨_, rfl⟩
    have hb1 : Below W0.heap.size W0 V1 := by rw [hV1]; exact (Below.refl _ _).alloc (Nat.le_refl _) _
    have hG : V1.ownsRow W0.heap.size 5 1 (.slice (some ⟨bg, 0, none⟩) 1 1) 1 ((headL cd).map U8) := by
      rw [hl]
      refine ⟨by simp, .inr ⟨bg, 1, _, rfl, by omega, by rw [hV1, hbg]; exact heap_alloc_new W0 _, Nat.le_refl _, by unfold maxLen; omega, by simp, ?_⟩⟩
      simp [U8]
      omega
    rw [← hV1, ← hbg]
    have HO1 := Lib.hid hG
    have HB1 := Lib.hid hb1
    obtain ⟨y0, y1⟩ := HK.out V1 hb1
    have HLn : Hid ((headL cd).length = 1) := Lib.hid (by rw [hl]; rfl)
    have hs1 : bg ≤ V1.heap.size := by rw [hbg]; exact hb1.size
    have HBG := Lib.hid hbg
    clear hV1 hG hb1 z0 z1 hbg hl
    go_upto_region 5 with (go_at_call 37; refine (HF.out _).mono ?_; rintro e w1 ⟨rfl, rfl⟩)
    subst hfo
    rcases hv with ⟨rfl, hv1, hv2⟩ | ⟨rfl, hv1, hv2, hv3⟩ | ⟨hc65, hv3⟩
    all_goals
      go_wp2_with (first
        | (go_at_call 43; (with_reducible refine (HP.out _).mono ?_); rintro e w2 ⟨g2, c2, rfl, hy2, hb2⟩; have HY2 := Lib.hid hy2; have HO2 := Lib.hid (own_kept HO1.out hb2); have HB2 := Lib.hid (HB1.out.trans (hb2.mono HB1.out.size)); clear hy2 hb2)
        | (at_builtin; refine wpList_append_own _ rfl (.tmp 124) (.tmp 126) 27 rfl W0.heap.size 5 i0 _ 1 1 Tryz.underlying27 hi hz0 hz1 hz2 rfl (by decide) _ 1 _ rfl HO2.out ⟨g2, 0, none⟩ K c2 (E.map U8) rfl (by simp [hE]) (u8cells HY2.out) ?d1 ?d2 ?d3 ?d4 ?_))
      case d1 => intro u hu; rw [List.mem_map] at hu; obtain ⟨_, _, rfl⟩ := hu; rfl
      case d2 => unfold maxLen; omega
      case d3 => have := HY2.out.2.2.1; omega
      case d4 => exact HB2.out.size
      intro v3 w3 ho3 hg3 _
      rw [← List.map_append] at ho3
      have HB3 : Hid (Below w.heap.size w w3) := Lib.hid ((HB0.out.trans ((own_below0 HB2.out HO2.out hg3 HB2.out.size).mono HB0.out.size)))
      obtain ⟨A3, c3, e3, hy3⟩ := byt_any ho3 (by rw [List.length_append, HLn.out, hE]) (fun x hx => by
        rcases List.mem_append.1 hx with q | q
        · exact HHL.out x q
        · exact HEx.out x q) (by omega)
      subst e3
      have HY3 := Lib.hid hy3
      have HLL := Lib.hid (len_two HLn.out hE)
      clear ho3 hg3 hy3
      go_wp2
      go_ret
      exact ⟨_, _, _, rfl, HY3.out, HLL.out, HB3.out⟩
  · have hge : (64512 : Int) ≤ cd := hhi.1
    have HP2 := Lib.hid (fun W => refPut_any (cd - 64512).toNat W (by omega))
    unfold PutPost at HP2
    have hl : headL cd = [252] ++ Leb.enc (Leb.szU (cd - 64512).toNat) (((cd - 64512).toNat : Nat) : Int) := by unfold headL; rw [if_neg (by omega)]; rfl
    have hE2 : (Leb.enc (Leb.szU (cd - 64512).toNat) (((cd - 64512).toNat : Nat) : Int)).length = Leb.szU (cd - 64512).toNat + 1 := enc_len _ _
    have hsz2 := Leb.szU_le 9 (cd - 64512).toNat (by omega)
    generalize Leb.enc (Leb.szU (cd - 64512).toNat) (((cd - 64512).toNat : Nat) : Int) = E2 at HP2 hE2 hl
    generalize Leb.szU (cd - 64512).toNat = K1 at HP2 hE2 hsz2
    rw [Int.toNat_of_nonneg (by omega)] at HP2
    obtain ⟨K2, hK2⟩ : ∃ K, K = K1 + 1 := ⟨_, rfl⟩
    rw [← hK2] at HP2 hE2
    obtain ⟨nh, hnh⟩ : ∃ z, z = 1 + K2 := ⟨_, rfl⟩
    have hnb : nh ≤ 20 ∧ K2 ≤ 10 ∧ 1 ≤ nh := by omega
    obtain ⟨hnh20, hk210, hnh1⟩ := hnb
    have HLn : Hid ((headL cd).length = nh) := Lib.hid (by rw [hl, List.length_append, hE2, hnh]; rfl)
    have HNH := Lib.hid hnh
    have HHd := Lib.hid hl
    have HE2 := Lib.hid hE2
    clear hl hK2 hnh hsz2 hE2
    go_enter Tryz.func18, Tryz.ntmps18
    go_upto_region 1 with fail
    rw [← HBX.out]
    rw [← HW0.out]
    go_upto_region 2 with fail
    generalize hV1 : W0.alloc _ = V1
    have hb1 : Below W0.heap.size W0 V1 := by rw [← hV1]; exact (Below.refl _ _).alloc (Nat.le_refl _) _
    obtain ⟨y0, y1⟩ := HK.out V1 hb1
    have HB1' := Lib.hid hb1
    clear hV1 hb1 z0 z1
    have y9 : (V1.alloc (.cells #[.int .u8 252] 5)).cell? ⟨bx, 0, none⟩ = some (.int .i64 cd) := (HK.out _ (HB1'.out.alloc HB1'.out.size _)).1
    go_upto_region 4 with (first
      | (go_at_call 42; (with_reducible refine (HP2.out _).mono ?_); rintro e w2 ⟨g2, c2, rfl, hy2, hb2⟩
         have HYh := Lib.hid hy2
         have HOh : Hid (w2.ownsRow W0.heap.size 5 1 (.slice (some ⟨V1.heap.size, 0, none⟩) 1 1) 1 ([252].map U8)) := Lib.hid (own_kept ⟨by simp, .inr ⟨V1.heap.size, 1, _, rfl, HB1'.out.size, heap_alloc_new V1 _, Nat.le_refl _, by unfold maxLen; omega, by simp, by simp [U8]⟩⟩ hb2)
         have HBh := Lib.hid ((HB1'.out.alloc HB1'.out.size _).trans (hb2.mono (HB1'.out.alloc HB1'.out.size _).size))
         clear hy2 hb2)
      | (at_builtin; refine wpList_append_own _ rfl (.tmp 13) (.tmp 18) 27 rfl W0.heap.size 5 i0 _ 1 1 Tryz.underlying27 hi hz0 hz1 hz2 rfl (by decide) _ 1 _ rfl HOh.out ⟨g2, 0, none⟩ K2 c2 (E2.map U8) rfl (by simp [HE2.out]) (u8cells HYh.out) ?d1 ?d2 ?d3 ?d4 ?_))
    case d1 => intro u hu; rw [List.mem_map] at hu; obtain ⟨_, _, rfl⟩ := hu; rfl
    case d2 => unfold maxLen; omega
    case d3 => have := HYh.out.2.2.1; omega
    case d4 => exact HBh.out.size
    intro v5 w5 ho5 hg5 _
    replace ho5 : w5.ownsRow W0.heap.size 5 1 v5 nh ((headL cd).map U8) := by rw [HHd.out, List.map_append, HNH.out]; exact ho5
    have HB1 : Hid (Below W0.heap.size W0 w5) := Lib.hid (own_below0 HBh.out HOh.out hg5 HBh.out.size)
    obtain ⟨g5, cp5, e5, _, _⟩ := own_some ho5 (by omega)
    subst e5
    have HO1 := Lib.hid ho5
    obtain ⟨x0, x1⟩ := HK.out w5 HB1.out
    clear ho5 hg5 y0 y1 y9
    go_upto_region 4 with fail
    go_upto_region 5 with (go_at_call 37; refine (HF.out _).mono ?_; rintro e w1 ⟨rfl, rfl⟩)
    subst hfo
    obtain ⟨hc65, hv3⟩ : (cd == 65) = false ∧ wrap64 a = v := by rcases hv with ⟨e, _⟩ | ⟨e, _⟩ | h; omega; omega; exact h
    all_goals
      go_wp2_with (first
        | (go_at_call 43; (with_reducible refine (HP.out _).mono ?_); rintro e w2 ⟨g2, c2, rfl, hy2, hb2⟩; have HY2 := Lib.hid hy2; have HO2 := Lib.hid (own_kept HO1.out hb2); have HB2 := Lib.hid (HB1.out.trans (hb2.mono HB1.out.size)); clear hy2 hb2)
        | (at_builtin; refine wpList_append_own _ rfl (.tmp 124) (.tmp 126) 27 rfl W0.heap.size 5 i0 _ 1 1 Tryz.underlying27 hi hz0 hz1 hz2 rfl (by decide) _ nh _ rfl HO2.out ⟨g2, 0, none⟩ K c2 (E.map U8) rfl (by simp [hE]) (u8cells HY2.out) ?d1 ?d2 ?d3 ?d4 ?_))
      case d1 => intro u hu; rw [List.mem_map] at hu; obtain ⟨_, _, rfl⟩ := hu; rfl
      case d2 => unfold maxLen; omega
      case d3 => have := HY2.out.2.2.1; omega
      case d4 => exact HB2.out.size
      intro v3 w3 ho3 hg3 _
      rw [← List.map_append] at ho3
      have HB3 : Hid (Below w.heap.size w w3) := Lib.hid ((HB0.out.trans ((own_below0 HB2.out HO2.out hg3 HB2.out.size).mono HB0.out.size)))
      obtain ⟨A3, c3, e3, hy3⟩ := byt_any ho3 (by rw [List.length_append, HLn.out, hE]) (fun x hx => by
        rcases List.mem_append.1 hx with q | q
        · exact HHL.out x q
        · exact HEx.out x q) (by omega)
      subst e3
      have HY3 := Lib.hid hy3
      have HLL := Lib.hid (len_two HLn.out hE)
      clear ho3 hg3 hy3
      go_wp2
      go_ret
      exact ⟨_, _, _, rfl, HY3.out, HLL.out, HB3.out⟩
end Go.Proofs.YtggfaalodojjkaaGreatDoor
namespace Go.Proofs.YtggfaalodojjkaaGreatDoor
open Go.RowKit
set_option linter.unusedVariables false
set_option linter.unusedSimpArgs false
set_option maxHeartbeats 4000000 in
set_option maxRecDepth 100000 in
theorem enc18_block (cd a b al : Int) (A : Option Addr) (n c : Nat) (w : World) (hcd : (0 ≤ cd ∧ cd < 252) ∨ (64512 ≤ cd ∧ cd < 100000)) (ha : 0 ≤ a ∧ a < 256) (hfo : formL cd = 1) :
    Calls Tryz.prog 18 #[.agg #[.int .i64 cd, .int .u64 a, .int .u64 b, .int .i64 al, .slice A n c]] w (EnR (headL cd ++ [a.toNat]) w) := by
  obtain ⟨i0, hi, hz0, hz1, hz2⟩ := info_parts info5
  obtain ⟨W0, hW0⟩ : ∃ V, V = w.alloc (.cells #[.int .i64 cd, .int .u64 a, .int .u64 b, .int .i64 al, .slice A n c] 25) := ⟨_, rfl⟩
  obtain ⟨bx, hbx⟩ : ∃ x, x = w.heap.size := ⟨_, rfl⟩
  have hb0 : Below w.heap.size w W0 := by rw [hW0]; exact (Below.refl _ _).alloc (Nat.le_refl _) _
  have hX0 : Blk W0 bx 25 #[.int .i64 cd, .int .u64 a, .int .u64 b, .int .i64 al, .slice A n c] := by rw [hW0, hbx]; exact Blk.new w 25 _
  have HK : Hid (∀ V, Below W0.heap.size W0 V → V.cell? ⟨bx, 0, none⟩ = some (.int .i64 cd) ∧ V.cell? ⟨bx, 1, none⟩ = some (.int .u64 a)) := Lib.hid (fun V hV => by
    have h1 := hX0.below hV hX0.lt
    exact ⟨h1.cell 0, h1.cell 1⟩)
  have HB0 := Lib.hid hb0
  have HW0 := Lib.hid hW0
  have HBX := Lib.hid hbx
  obtain ⟨fo, hfl⟩ : ∃ z, z = formL cd := ⟨_, rfl⟩
  have HF := Lib.hid (fun W => RForm_any cd ⟨by omega, by omega⟩ W)
  rw [← hfl] at HF hfo
  have HHL := Lib.hid (headL_lt cd)
  have HHP := Lib.hid (headL_pos cd)
  unfold EnR
  obtain ⟨z0, z1⟩ := HK.out W0 (Below.refl _ _)
  have hss : Hid (W0.heap.size = bx + 1) := Lib.hid (by rw [hW0, hbx]; simp)
  clear hb0 hX0 hW0 hbx hfl
  rcases hcd with hlo | hhi
  · have hl : headL cd = [cd.toNat] := by unfold headL; rw [if_pos (by omega), show cd % 256 = cd by omega]
    have hw : IntKind.u8.wrap cd = cd := by simp only [IntKind.wrap, IntKind.bits, IntKind.signed]; simp; omega
    have hge : ¬ (64512 : Int) ≤ cd := by omega
    go_enter Tryz.func18, Tryz.ntmps18
    go_upto_region 1 with fail
    rw [← HBX.out]
    rw [← HW0.out]
    go_upto_region 2 with fail
    obtain ⟨V1, hV1⟩ : ∃ V, V = W0.alloc (.cells #[.int .u8 cd] 5) := ⟨_, rfl⟩
    obtain ⟨bg, hbg⟩ : ∃ z, z = W0.heap.size := ⟨_, rfl⟩
    have hb1 : Below W0.heap.size W0 V1 := by rw [hV1]; exact (Below.refl _ _).alloc (Nat.le_refl _) _
    have hG : V1.ownsRow W0.heap.size 5 1 (.slice (some ⟨bg, 0, none⟩) 1 1) 1 ((headL cd).map U8) := by
      rw [hl]
      refine ⟨by simp, .inr ⟨bg, 1, _, rfl, by omega, by rw [hV1, hbg]; exact heap_alloc_new W0 _, Nat.le_refl _, by unfold maxLen; omega, by simp, ?_⟩⟩
      simp [U8]
      omega
    rw [← hV1, ← hbg]
    have HO1 := Lib.hid hG
    have HB1 := Lib.hid hb1
    obtain ⟨y0, y1⟩ := HK.out V1 hb1
    have HLn : Hid ((headL cd).length = 1) := Lib.hid (by rw [hl]; rfl)
    have hs1 : bg ≤ V1.heap.size := by rw [hbg]; exact hb1.size
    have HBG := Lib.hid hbg
    clear hV1 hG hb1 z0 z1 hbg hl
    go_upto_region 5 with (go_at_call 37; refine (HF.out _).mono ?_; rintro e w1 ⟨rfl, rfl⟩)
    subst hfo
    have hw8 : IntKind.u8.wrap a = a := by simp only [IntKind.wrap, IntKind.bits, IntKind.signed]; simp; omega
    go_wp2_with (at_builtin; refine wpList_append_own _ rfl (.tmp 25) (.tmp 29) 27 rfl W0.heap.size 5 i0 _ 1 1 Tryz.underlying27 hi hz0 hz1 hz2 rfl (by decide) _ 1 _ rfl (HO1.out.alloc _) ⟨V1.heap.size, 0, none⟩ 1 1 [.int .u8 a] rfl rfl (cell_new _ _ _) ?d1 ?d2 ?d3 ?d4 ?_)
    case d1 => intro u hu; simp at hu; subst hu; rfl
    case d2 => unfold maxLen; omega
    case d3 => omega
    case d4 => exact (HB1.out.alloc HB1.out.size _).size
    intro v3 w3 ho3 hg3 _
    replace ho3 : w3.ownsRow W0.heap.size 5 1 v3 (1 + 1) ((headL cd ++ [a.toNat]).map U8) := by
      rw [List.map_append]
      have e : ([a.toNat].map U8) = [Value.int .u8 a] := by simp [U8]; omega
      rw [e]; exact ho3
    have HB3 : Hid (Below w.heap.size w w3) := Lib.hid ((HB0.out.trans ((own_below0 (HB1.out.alloc HB1.out.size _) (HO1.out.alloc _) hg3 (HB1.out.alloc HB1.out.size _).size).mono HB0.out.size)))
    have HLL := Lib.hid (len_two HLn.out (show [a.toNat].length = 1 from rfl))
    obtain ⟨A3, c3, e3, hy3⟩ := byt_any ho3 HLL.out.symm (fun x hx => by
      rcases List.mem_append.1 hx with q | q
      · exact HHL.out x q
      · simp only [List.mem_singleton] at q; omega) (by omega)
    subst e3
    have HY3 := Lib.hid hy3
    clear ho3 hg3 hy3
    go_wp2
    go_ret
    exact ⟨_, _, _, rfl, HY3.out, HLL.out, HB3.out⟩
  · have hge : (64512 : Int) ≤ cd := hhi.1
    have HP2 := Lib.hid (fun W => refPut_any (cd - 64512).toNat W (by omega))
    unfold PutPost at HP2
    have hl : headL cd = [252] ++ Leb.enc (Leb.szU (cd - 64512).toNat) (((cd - 64512).toNat : Nat) : Int) := by unfold headL; rw [if_neg (by omega)]; rfl
    have hE2 : (Leb.enc (Leb.szU (cd - 64512).toNat) (((cd - 64512).toNat : Nat) : Int)).length = Leb.szU (cd - 64512).toNat + 1 := enc_len _ _
    have hsz2 := Leb.szU_le 9 (cd - 64512).toNat (by omega)
    generalize Leb.enc (Leb.szU (cd - 64512).toNat) (((cd - 64512).toNat : Nat) : Int) = E2 at HP2 hE2 hl
    generalize Leb.szU (cd - 64512).toNat = K1 at HP2 hE2 hsz2
    rw [Int.toNat_of_nonneg (by omega)] at HP2
    obtain ⟨K2, hK2⟩ : ∃ K, K = K1 + 1 := ⟨_, rfl⟩
    rw [← hK2] at HP2 hE2
    obtain ⟨nh, hnh⟩ : ∃ z, z = 1 + K2 := ⟨_, rfl⟩
    have hnb : nh ≤ 20 ∧ K2 ≤ 10 ∧ 1 ≤ nh := by omega
    obtain ⟨hnh20, hk210, hnh1⟩ := hnb
    have HLn : Hid ((headL cd).length = nh) := Lib.hid (by rw [hl, List.length_append, hE2, hnh]; rfl)
    have HNH := Lib.hid hnh
    have HHd := Lib.hid hl
    have HE2 := Lib.hid hE2
    clear hl hK2 hnh hsz2 hE2
    go_enter Tryz.func18, Tryz.ntmps18
    go_upto_region 1 with fail
    rw [← HBX.out]
    rw [← HW0.out]
    go_upto_region 2 with fail
    generalize hV1 : W0.alloc _ = V1
    have hb1 : Below W0.heap.size W0 V1 := by rw [← hV1]; exact (Below.refl _ _).alloc (Nat.le_refl _) _
    obtain ⟨y0, y1⟩ := HK.out V1 hb1
    have HB1' := Lib.hid hb1
    clear hV1 hb1 z0 z1
    have y9 : (V1.alloc (.cells #[.int .u8 252] 5)).cell? ⟨bx, 0, none⟩ = some (.int .i64 cd) := (HK.out _ (HB1'.out.alloc HB1'.out.size _)).1
    go_upto_region 4 with (first
      | (go_at_call 42; (with_reducible refine (HP2.out _).mono ?_); rintro e w2 ⟨g2, c2, rfl, hy2, hb2⟩
         have HYh := Lib.hid hy2
         have HOh : Hid (w2.ownsRow W0.heap.size 5 1 (.slice (some ⟨V1.heap.size, 0, none⟩) 1 1) 1 ([252].map U8)) := Lib.hid (own_kept ⟨by simp, .inr ⟨V1.heap.size, 1, _, rfl, HB1'.out.size, heap_alloc_new V1 _, Nat.le_refl _, by unfold maxLen; omega, by simp, by simp [U8]⟩⟩ hb2)
         have HBh := Lib.hid ((HB1'.out.alloc HB1'.out.size _).trans (hb2.mono (HB1'.out.alloc HB1'.out.size _).size))
         clear hy2 hb2)
      | (at_builtin; refine wpList_append_own _ rfl (.tmp 13) (.tmp 18) 27 rfl W0.heap.size 5 i0 _ 1 1 Tryz.underlying27 hi hz0 hz1 hz2 rfl (by decide) _ 1 _ rfl HOh.out ⟨g2, 0, none⟩ K2 c2 (E2.map U8) rfl (by simp [HE2.out]) (u8cells HYh.out) ?d1 ?d2 ?d3 ?d4 ?_))
    case d1 => intro u hu; rw [List.mem_map] at hu; obtain ⟨_, _, rfl⟩ := hu; rfl
    case d2 => unfold maxLen; omega
    case d3 => have := HYh.out.2.2.1; omega
    case d4 => exact HBh.out.size
    intro v5 w5 ho5 hg5 _
    replace ho5 : w5.ownsRow W0.heap.size 5 1 v5 nh ((headL cd).map U8) := by rw [HHd.out, List.map_append, HNH.out]; exact ho5
    have HB1 : Hid (Below W0.heap.size W0 w5) := Lib.hid (own_below0 HBh.out HOh.out hg5 HBh.out.size)
    obtain ⟨g5, cp5, e5, _, _⟩ := own_some ho5 (by omega)
    subst e5
    have HO1 := Lib.hid ho5
    obtain ⟨x0, x1⟩ := HK.out w5 HB1.out
    clear ho5 hg5 y0 y1 y9
    go_upto_region 4 with fail
    go_upto_region 5 with (go_at_call 37; refine (HF.out _).mono ?_; rintro e w1 ⟨rfl, rfl⟩)
    subst hfo
    have hw8 : IntKind.u8.wrap a = a := by simp only [IntKind.wrap, IntKind.bits, IntKind.signed]; simp; omega
    go_wp2_with (at_builtin; refine wpList_append_own _ rfl (.tmp 25) (.tmp 29) 27 rfl W0.heap.size 5 i0 _ 1 1 Tryz.underlying27 hi hz0 hz1 hz2 rfl (by decide) _ nh _ rfl (HO1.out.alloc _) ⟨w5.heap.size, 0, none⟩ 1 1 [.int .u8 a] rfl rfl (cell_new _ _ _) ?d1 ?d2 ?d3 ?d4 ?_)
    case d1 => intro u hu; simp at hu; subst hu; rfl
    case d2 => unfold maxLen; omega
    case d3 => omega
    case d4 => exact (HB1.out.alloc HB1.out.size _).size
    intro v3 w3 ho3 hg3 _
    replace ho3 : w3.ownsRow W0.heap.size 5 1 v3 (nh + 1) ((headL cd ++ [a.toNat]).map U8) := by
      rw [List.map_append]
      have e : ([a.toNat].map U8) = [Value.int .u8 a] := by simp [U8]; omega
      rw [e]; exact ho3
    have HB3 : Hid (Below w.heap.size w w3) := Lib.hid ((HB0.out.trans ((own_below0 (HB1.out.alloc HB1.out.size _) (HO1.out.alloc _) hg3 (HB1.out.alloc HB1.out.size _).size).mono HB0.out.size)))
    have HLL := Lib.hid (len_two HLn.out (show [a.toNat].length = 1 from rfl))
    obtain ⟨A3, c3, e3, hy3⟩ := byt_any ho3 HLL.out.symm (fun x hx => by
      rcases List.mem_append.1 hx with q | q
      · exact HHL.out x q
      · simp only [List.mem_singleton] at q; omega) (by omega)
    subst e3
    have HY3 := Lib.hid hy3
    clear ho3 hg3 hy3
    go_wp2
    go_ret
    exact ⟨_, _, _, rfl, HY3.out, HLL.out, HB3.out⟩
end Go.Proofs.YtggfaalodojjkaaGreatDoor
namespace Go.Proofs.YtggfaalodojjkaaGreatDoor
open Go.RowKit
set_option linter.unusedVariables false
set_option linter.unusedSimpArgs false
set_option maxHeartbeats 8000000 in
set_option maxRecDepth 100000 in
theorem enc18_mem0 (cd a b al : Int) (A : Option Addr) (n c : Nat) (w : World) (hcd : (0 ≤ cd ∧ cd < 252) ∨ (64512 ≤ cd ∧ cd < 100000)) (ha : 0 ≤ a ∧ a < 18446744073709551616) (hb : 0 ≤ b ∧ b < 18446744073709551616) (hal : 0 ≤ al ∧ al ≤ 31) (hfo : formL cd = 8) (ha0 : a = 0) :
    Calls Tryz.prog 18 #[.agg #[.int .i64 cd, .int .u64 a, .int .u64 b, .int .i64 al, .slice A n c]] w (EnR (headL cd ++ (Leb.enc (Leb.szU al.toNat) al.toNat ++ Leb.enc (Leb.szU b.toNat) b.toNat)) w) := by
  obtain ⟨i0, hi, hz0, hz1, hz2⟩ := info_parts info5
  rw [← List.append_assoc]
  have hne : (a == 0) = true := by simpa using ha0
  clear ha0
  obtain ⟨W0, hW0⟩ : ∃ V, V = w.alloc (.cells #[.int .i64 cd, .int .u64 a, .int .u64 b, .int .i64 al, .slice A n c] 25) := ⟨_, rfl⟩
  obtain ⟨bx, hbx⟩ : ∃ x, x = w.heap.size := ⟨_, rfl⟩
  have hb0 : Below w.heap.size w W0 := by rw [hW0]; exact (Below.refl _ _).alloc (Nat.le_refl _) _
  have hX0 : Blk W0 bx 25 #[.int .i64 cd, .int .u64 a, .int .u64 b, .int .i64 al, .slice A n c] := by rw [hW0, hbx]; exact Blk.new w 25 _
  have HK : Hid (∀ V, Below W0.heap.size W0 V → V.cell? ⟨bx, 0, none⟩ = some (.int .i64 cd) ∧ V.cell? ⟨bx, 1, none⟩ = some (.int .u64 a) ∧ V.cell? ⟨bx, 2, none⟩ = some (.int .u64 b) ∧ V.cell? ⟨bx, 3, none⟩ = some (.int .i64 al) ∧ V.cell? ⟨bx, 4, none⟩ = some (.slice A n c)) := Lib.hid (fun V hV => by
    have h1 := hX0.below hV hX0.lt
    exact ⟨h1.cell 0, h1.cell 1, h1.cell 2, h1.cell 3, h1.cell 4⟩)
  have HB0 := Lib.hid hb0
  have HW0 := Lib.hid hW0
  have HBX := Lib.hid hbx
  obtain ⟨fo, hfl⟩ : ∃ z, z = formL cd := ⟨_, rfl⟩
  have HF := Lib.hid (fun W => RForm_any cd ⟨by omega, by omega⟩ W)
  rw [← hfl] at HF hfo
  have HPl := Lib.hid (fun W => refPut_new (al).toNat W (by omega))
  have hEl : (Leb.enc (Leb.szU (al).toNat) (((al).toNat : Nat) : Int)).length = Leb.szU (al).toNat + 1 := enc_len _ _
  have hExl : ∀ x ∈ Leb.enc (Leb.szU (al).toNat) (((al).toNat : Nat) : Int), x < 256 := Leb.enc_lt _ _
  have hszl := Leb.szU_le 9 (al).toNat (by omega)
  generalize Leb.enc (Leb.szU (al).toNat) (((al).toNat : Nat) : Int) = El at HPl hEl hExl ⊢
  generalize Leb.szU (al).toNat = K0l at HPl hEl hszl
  rw [Int.toNat_of_nonneg (by omega)] at HPl
  obtain ⟨Kl, hKl⟩ : ∃ K, K = K0l + 1 := ⟨_, rfl⟩
  rw [← hKl] at HPl hEl
  have hK10l : Kl ≤ 10 ∧ 0 < Kl := by omega
  have HExl := Lib.hid hExl
  have HEl := Lib.hid hEl
  clear hKl hszl hExl hEl
  unfold PutNew at HPl
  have HPb := Lib.hid (fun W => refPut_new (b).toNat W (by omega))
  have hEb : (Leb.enc (Leb.szU (b).toNat) (((b).toNat : Nat) : Int)).length = Leb.szU (b).toNat + 1 := enc_len _ _
  have hExb : ∀ x ∈ Leb.enc (Leb.szU (b).toNat) (((b).toNat : Nat) : Int), x < 256 := Leb.enc_lt _ _
  have hszb := Leb.szU_le 9 (b).toNat (by omega)
  generalize Leb.enc (Leb.szU (b).toNat) (((b).toNat : Nat) : Int) = Eb at HPb hEb hExb ⊢
  generalize Leb.szU (b).toNat = K0b at HPb hEb hszb
  rw [Int.toNat_of_nonneg (by omega)] at HPb
  obtain ⟨Kb, hKb⟩ : ∃ K, K = K0b + 1 := ⟨_, rfl⟩
  rw [← hKb] at HPb hEb
  have hK10b : Kb ≤ 10 ∧ 0 < Kb := by omega
  have HExb := Lib.hid hExb
  have HEb := Lib.hid hEb
  clear hKb hszb hExb hEb
  unfold PutNew at HPb
  have hwal : IntKind.u64.wrap al = al := by rw [IntKind.wrap_u64]; omega
  have HHL := Lib.hid (headL_lt cd)
  have HHP := Lib.hid (headL_pos cd)
  unfold EnR
  obtain ⟨z0, z1, z2, z3, z4⟩ := HK.out W0 (Below.refl _ _)
  have hss : Hid (W0.heap.size = bx + 1) := Lib.hid (by rw [hW0, hbx]; simp)
  clear hb0 hX0 hW0 hbx hfl
  rcases hcd with hlo | hhi
  · have hl : headL cd = [cd.toNat] := by unfold headL; rw [if_pos (by omega), show cd % 256 = cd by omega]
    have hw : IntKind.u8.wrap cd = cd := by simp only [IntKind.wrap, IntKind.bits, IntKind.signed]; simp; omega
    have hge : ¬ (64512 : Int) ≤ cd := by omega
    go_enter Tryz.func18, Tryz.ntmps18
    go_upto_region 1 with fail
    rw [← HBX.out]
    rw [← HW0.out]
    go_upto_region 2 with fail
    obtain ⟨V, hV1⟩ : ∃ V, V = W0.alloc (.cells #[.int .u8 cd] 5) := ⟨_, rfl⟩
    obtain ⟨g1, hbg⟩ : ∃ z, z = W0.heap.size := ⟨_, rfl⟩
    obtain ⟨c1, hc1⟩ : ∃ z, z = 1 := ⟨_, rfl⟩
    obtain ⟨nh, hnh⟩ : ∃ z, z = 1 := ⟨_, rfl⟩
    have hb1 : Below W0.heap.size W0 V := by rw [hV1]; exact (Below.refl _ _).alloc (Nat.le_refl _) _
    have hG : V.ownsRow W0.heap.size 5 1 (.slice (some ⟨g1, 0, none⟩) nh c1) nh ((headL cd).map U8) := by
      rw [hl, hc1, hnh]
      refine ⟨by simp, .inr ⟨g1, 1, _, rfl, by omega, by rw [hV1, hbg]; exact heap_alloc_new W0 _, Nat.le_refl _, by unfold maxLen; omega, by simp, ?_⟩⟩
      simp [U8]
      omega
    rw [← hV1, ← hbg]
    have hnc1 : (.slice (some ⟨g1, 0, none⟩) 1 1 : Value) = .slice (some ⟨g1, 0, none⟩) nh c1 := by rw [hc1, hnh]
    rw [hnc1]
    have HO1 := Lib.hid hG
    have HB1 := Lib.hid hb1
    obtain ⟨y0, y1, y2, y3, y4⟩ := HK.out V hb1
    have HLn : Hid ((headL cd).length = nh) := Lib.hid (by rw [hl, hnh]; rfl)
    have hnb : nh ≤ 20 ∧ 1 ≤ nh := by omega
    have hnc : nh ≤ c1 ∧ c1 ≤ 9223372036854775807 := by omega
    clear hV1 hG hb1 z0 z1 z2 z3 z4 hbg hl hnc1 hc1 hnh
    go_upto_region 5 with (go_at_call 37; refine (HF.out _).mono ?_; rintro e w1 ⟨rfl, rfl⟩)
    subst hfo
    go_upto_region 25 with fail
    go_upto_region 27 with (first
      | (go_at_call 42; (with_reducible refine (HPl.out _).mono ?_); rintro e u2 ⟨p2, q2, rfl, hy2, hb2, hge2⟩; have HY2 := Lib.hid hy2; have HOk2 := Lib.hid (own_kept HO1.out hb2); have HBk2 := Lib.hid (HB1.out.trans (hb2.mono HB1.out.size)); clear hy2 hb2 hge2)
      | (at_builtin; refine wpList_append_own _ rfl (.tmp 88) (.tmp 92) 27 rfl W0.heap.size 5 i0 _ 1 1 Tryz.underlying27 hi hz0 hz1 hz2 rfl (by decide) _ (nh) _ rfl HOk2.out ⟨p2, 0, none⟩ Kl q2 (El.map U8) rfl (by simp [HEl.out]) (u8cells HY2.out) ?d1 ?d2 ?d3 ?d4 ?_))
    case d1 => intro u hu; rw [List.mem_map] at hu; obtain ⟨_, _, rfl⟩ := hu; rfl
    case d2 => unfold maxLen; omega
    case d3 => have := HY2.out.2.2.1; omega
    case d4 => exact HBk2.out.size
    intro v2 V2 ho2 hg2 _
    replace ho2 : V2.ownsRow W0.heap.size 5 1 v2 (nh + Kl) ((headL cd ++ El).map U8) := by simpa only [List.map_append, List.append_assoc] using ho2
    have HB2 : Hid (Below W0.heap.size W0 V2) := Lib.hid (own_below0 HBk2.out HOk2.out hg2 HBk2.out.size)
    have HX2 := Lib.hid (cat_lt HHL.out HExl.out)
    have HN2 := Lib.hid (len_two HLn.out HEl.out).symm
    obtain ⟨g2, c2, e2, hnc2, hmc2⟩ := own_some ho2 (by omega)
    subst e2
    unfold maxLen at hmc2
    have HO2 := Lib.hid ho2
    clear ho2 hg2
    clear y0 y1 y2 y3 y4
    obtain ⟨x0, x1, x2, x3, x4⟩ := HK.out V2 HB2.out
    go_upto_region 27 with fail
    go_wp2_with (first
      | (go_at_call 42; (with_reducible refine (HPb.out _).mono ?_); rintro e u3 ⟨p3, q3, rfl, hy3, hb3, hge3⟩; have HY3 := Lib.hid hy3; have HOk3 := Lib.hid (own_kept HO2.out hb3); have HBk3 := Lib.hid (HB2.out.trans (hb3.mono HB2.out.size)); clear hy3 hb3 hge3)
      | (at_builtin; refine wpList_append_own _ rfl (.tmp 105) (.tmp 108) 27 rfl W0.heap.size 5 i0 _ 1 1 Tryz.underlying27 hi hz0 hz1 hz2 rfl (by decide) _ (nh + Kl) _ rfl HOk3.out ⟨p3, 0, none⟩ Kb q3 (Eb.map U8) rfl (by simp [HEb.out]) (u8cells HY3.out) ?d1 ?d2 ?d3 ?d4 ?_))
    case d1 => intro u hu; rw [List.mem_map] at hu; obtain ⟨_, _, rfl⟩ := hu; rfl
    case d2 => unfold maxLen; omega
    case d3 => have := HY3.out.2.2.1; omega
    case d4 => exact HBk3.out.size
    intro v3 V3 ho3 hg3 _
    replace ho3 : V3.ownsRow W0.heap.size 5 1 v3 (nh + Kl + Kb) ((headL cd ++ El ++ Eb).map U8) := by simpa only [List.map_append, List.append_assoc] using ho3
    have HB3 : Hid (Below W0.heap.size W0 V3) := Lib.hid (own_below0 HBk3.out HOk3.out hg3 HBk3.out.size)
    have HX3 := Lib.hid (cat_lt HX2.out HExb.out)
    have HN3 := Lib.hid (len_two HN2.out HEb.out)
    obtain ⟨A3, c3, e3, hy3z⟩ := byt_any ho3 HN3.out.symm HX3.out (by omega)
    subst e3
    have HYz := Lib.hid hy3z
    clear ho3 hg3 hy3z
    go_wp2
    go_ret
    exact ⟨_, _, _, rfl, HYz.out, HN3.out, HB0.out.trans (HB3.out.mono HB0.out.size)⟩
  · have hge : (64512 : Int) ≤ cd := hhi.1
    have HP2 := Lib.hid (fun W => refPut_any (cd - 64512).toNat W (by omega))
    unfold PutPost at HP2
    have hl : headL cd = [252] ++ Leb.enc (Leb.szU (cd - 64512).toNat) (((cd - 64512).toNat : Nat) : Int) := by unfold headL; rw [if_neg (by omega)]; rfl
    have hE2 : (Leb.enc (Leb.szU (cd - 64512).toNat) (((cd - 64512).toNat : Nat) : Int)).length = Leb.szU (cd - 64512).toNat + 1 := enc_len _ _
    have hsz2 := Leb.szU_le 9 (cd - 64512).toNat (by omega)
    generalize Leb.enc (Leb.szU (cd - 64512).toNat) (((cd - 64512).toNat : Nat) : Int) = E2 at HP2 hE2 hl
    generalize Leb.szU (cd - 64512).toNat = K1 at HP2 hE2 hsz2
    rw [Int.toNat_of_nonneg (by omega)] at HP2
    obtain ⟨K2, hK2⟩ : ∃ K, K = K1 + 1 := ⟨_, rfl⟩
    rw [← hK2] at HP2 hE2
    obtain ⟨nh, hnh⟩ : ∃ z, z = 1 + K2 := ⟨_, rfl⟩
    have hnb : nh ≤ 20 ∧ 1 ≤ nh := by omega
    have hk210 : K2 ≤ 10 := by omega
    have HLn : Hid ((headL cd).length = nh) := Lib.hid (by rw [hl, List.length_append, hE2, hnh]; rfl)
    have HNH := Lib.hid hnh
    have HHd := Lib.hid hl
    have HE2 := Lib.hid hE2
    clear hl hK2 hnh hsz2 hE2
    go_enter Tryz.func18, Tryz.ntmps18
    go_upto_region 1 with fail
    rw [← HBX.out]
    rw [← HW0.out]
    go_upto_region 2 with fail
    generalize hV1 : W0.alloc _ = V1
    have hb1 : Below W0.heap.size W0 V1 := by rw [← hV1]; exact (Below.refl _ _).alloc (Nat.le_refl _) _
    obtain ⟨y0, y1, y2, y3, y4⟩ := HK.out V1 hb1
    have HB1' := Lib.hid hb1
    clear hV1 hb1 z0 z1 z2 z3 z4
    have y9 : (V1.alloc (.cells #[.int .u8 252] 5)).cell? ⟨bx, 0, none⟩ = some (.int .i64 cd) := (HK.out _ (HB1'.out.alloc HB1'.out.size _)).1
    go_upto_region 4 with (first
      | (go_at_call 42; (with_reducible refine (HP2.out _).mono ?_); rintro e w2 ⟨g2, c2, rfl, hy2, hb2⟩
         have HYh := Lib.hid hy2
         have HOh : Hid (w2.ownsRow W0.heap.size 5 1 (.slice (some ⟨V1.heap.size, 0, none⟩) 1 1) 1 ([252].map U8)) := Lib.hid (own_kept ⟨by simp, .inr ⟨V1.heap.size, 1, _, rfl, HB1'.out.size, heap_alloc_new V1 _, Nat.le_refl _, by unfold maxLen; omega, by simp, by simp [U8]⟩⟩ hb2)
         have HBh := Lib.hid ((HB1'.out.alloc HB1'.out.size _).trans (hb2.mono (HB1'.out.alloc HB1'.out.size _).size))
         clear hy2 hb2)
      | (at_builtin; refine wpList_append_own _ rfl (.tmp 13) (.tmp 18) 27 rfl W0.heap.size 5 i0 _ 1 1 Tryz.underlying27 hi hz0 hz1 hz2 rfl (by decide) _ 1 _ rfl HOh.out ⟨g2, 0, none⟩ K2 c2 (E2.map U8) rfl (by simp [HE2.out]) (u8cells HYh.out) ?d1 ?d2 ?d3 ?d4 ?_))
    case d1 => intro u hu; rw [List.mem_map] at hu; obtain ⟨_, _, rfl⟩ := hu; rfl
    case d2 => unfold maxLen; omega
    case d3 => have := HYh.out.2.2.1; omega
    case d4 => exact HBh.out.size
    intro v5 V ho5 hg5 _
    replace ho5 : V.ownsRow W0.heap.size 5 1 v5 nh ((headL cd).map U8) := by rw [HHd.out, List.map_append, HNH.out]; exact ho5
    have HB1 : Hid (Below W0.heap.size W0 V) := Lib.hid (own_below0 HBh.out HOh.out hg5 HBh.out.size)
    obtain ⟨g1, c1, e5, hnc, hmc⟩ := own_some ho5 (by omega)
    subst e5
    have HO1 := Lib.hid ho5
    unfold maxLen at hmc
    have hnc : nh ≤ c1 ∧ c1 ≤ 9223372036854775807 := ⟨hnc, by omega⟩
    clear ho5 hg5 y0 y1 y2 y3 y4 y9 hmc
    obtain ⟨y0, y1, y2, y3, y4⟩ := HK.out V HB1.out
    clear HP2
    go_upto_region 4 with fail
    go_upto_region 5 with (go_at_call 37; refine (HF.out _).mono ?_; rintro e w1 ⟨rfl, rfl⟩)
    subst hfo
    go_upto_region 25 with fail
    go_upto_region 27 with (first
      | (go_at_call 42; (with_reducible refine (HPl.out _).mono ?_); rintro e u2 ⟨p2, q2, rfl, hy2, hb2, hge2⟩; have HY2 := Lib.hid hy2; have HOk2 := Lib.hid (own_kept HO1.out hb2); have HBk2 := Lib.hid (HB1.out.trans (hb2.mono HB1.out.size)); clear hy2 hb2 hge2)
      | (at_builtin; refine wpList_append_own _ rfl (.tmp 88) (.tmp 92) 27 rfl W0.heap.size 5 i0 _ 1 1 Tryz.underlying27 hi hz0 hz1 hz2 rfl (by decide) _ (nh) _ rfl HOk2.out ⟨p2, 0, none⟩ Kl q2 (El.map U8) rfl (by simp [HEl.out]) (u8cells HY2.out) ?d1 ?d2 ?d3 ?d4 ?_))
    case d1 => intro u hu; rw [List.mem_map] at hu; obtain ⟨_, _, rfl⟩ := hu; rfl
    case d2 => unfold maxLen; omega
    case d3 => have := HY2.out.2.2.1; omega
    case d4 => exact HBk2.out.size
    intro v2 V2 ho2 hg2 _
    replace ho2 : V2.ownsRow W0.heap.size 5 1 v2 (nh + Kl) ((headL cd ++ El).map U8) := by simpa only [List.map_append, List.append_assoc] using ho2
    have HB2 : Hid (Below W0.heap.size W0 V2) := Lib.hid (own_below0 HBk2.out HOk2.out hg2 HBk2.out.size)
    have HX2 := Lib.hid (cat_lt HHL.out HExl.out)
    have HN2 := Lib.hid (len_two HLn.out HEl.out).symm
    obtain ⟨g2, c2, e2, hnc2, hmc2⟩ := own_some ho2 (by omega)
    subst e2
    unfold maxLen at hmc2
    have HO2 := Lib.hid ho2
    clear ho2 hg2
    clear y0 y1 y2 y3 y4
    obtain ⟨x0, x1, x2, x3, x4⟩ := HK.out V2 HB2.out
    go_upto_region 27 with fail
    go_wp2_with (first
      | (go_at_call 42; (with_reducible refine (HPb.out _).mono ?_); rintro e u3 ⟨p3, q3, rfl, hy3, hb3, hge3⟩; have HY3 := Lib.hid hy3; have HOk3 := Lib.hid (own_kept HO2.out hb3); have HBk3 := Lib.hid (HB2.out.trans (hb3.mono HB2.out.size)); clear hy3 hb3 hge3)
      | (at_builtin; refine wpList_append_own _ rfl (.tmp 105) (.tmp 108) 27 rfl W0.heap.size 5 i0 _ 1 1 Tryz.underlying27 hi hz0 hz1 hz2 rfl (by decide) _ (nh + Kl) _ rfl HOk3.out ⟨p3, 0, none⟩ Kb q3 (Eb.map U8) rfl (by simp [HEb.out]) (u8cells HY3.out) ?d1 ?d2 ?d3 ?d4 ?_))
    case d1 => intro u hu; rw [List.mem_map] at hu; obtain ⟨_, _, rfl⟩ := hu; rfl
    case d2 => unfold maxLen; omega
    case d3 => have := HY3.out.2.2.1; omega
    case d4 => exact HBk3.out.size
    intro v3 V3 ho3 hg3 _
    replace ho3 : V3.ownsRow W0.heap.size 5 1 v3 (nh + Kl + Kb) ((headL cd ++ El ++ Eb).map U8) := by simpa only [List.map_append, List.append_assoc] using ho3
    have HB3 : Hid (Below W0.heap.size W0 V3) := Lib.hid (own_below0 HBk3.out HOk3.out hg3 HBk3.out.size)
    have HX3 := Lib.hid (cat_lt HX2.out HExb.out)
    have HN3 := Lib.hid (len_two HN2.out HEb.out)
    obtain ⟨A3, c3, e3, hy3z⟩ := byt_any ho3 HN3.out.symm HX3.out (by omega)
    subst e3
    have HYz := Lib.hid hy3z
    clear ho3 hg3 hy3z
    go_wp2
    go_ret
    exact ⟨_, _, _, rfl, HYz.out, HN3.out, HB0.out.trans (HB3.out.mono HB0.out.size)⟩
end Go.Proofs.YtggfaalodojjkaaGreatDoor
