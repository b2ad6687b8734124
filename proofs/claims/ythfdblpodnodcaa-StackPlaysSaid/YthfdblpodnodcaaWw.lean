/-
  The walk of StackPlays.
-/
import Derived.Test.YthfdblpodnodcaaWr
import Derived.Deep.DeepCutAuto
import Derived.Deep.CutBlock
import Derived.BigQuiet
import Derived.BigGuard
namespace Go.Proofs.Ythfdblpodnodcaa
open Go.RowKit
set_option linter.unusedVariables false
set_option maxHeartbeats 4000000 in
set_option maxRecDepth 1000000 in
theorem stackPlays_walk (sz cells : Int) (A : Option Addr) (len cap : Nat) (X : Nat → Deed) (w : World) (h0 : (Lit.int .u16 sz).wf = true) (h1 : (Lit.int .i64 cells).wf = true) (hF : DdRow w A len cap X) : Calls Try.prog 3 #[.int .u16 sz, .int .i64 cells, .slice A len cap] w fun e w' => e = .returned (.bool true) ∧ Below w.heap.size w w' := by
  have hsz := bounds_u16 h0
  have hmo := bounds_i64 h1
  have HA := Lib.hid (awake19_any w)
  have hcap : len ≤ cap := hF.1
  have hcap2 : cap ≤ 9223372036854775807 := hF.2.1
  have HF := Lib.hid hF
  obtain ⟨S, rfl⟩ : ∃ S : Nat, sz = S := ⟨sz.toNat, by omega⟩
  clear h0 h1 hF
  by_cases hlen : len ≤ 60
  · have hd1 : decide (60 < (len : Int)) = false := decide_eq_false (by omega)
    go_enter Try.func3, Try.ntmps3
    go_wp2_with (go_at_call 12; refine HA.out.mono ?_; rintro e w1 ⟨rfl, hb⟩; dsimp only; have HB := Lib.hid hb; clear hb)
    go_wp2_with fail
    refine (ANew_ok S _ (by omega)).mono ?_
    rintro e w2 ⟨a, bb, rm, gm, rfl, ha1, b1, ha, hb, hr, hg⟩
    dsimp only
    have hs1 := HB.out.size
    have B1 := Lib.hid (And.intro (HB.out.trans (b1.mono hs1)) (And.intro (Nat.le_trans hs1 ha) (And.intro (Nat.le_trans hs1 hb) (And.intro (Nat.le_trans hs1 hr) (Nat.le_trans hs1 hg)))))
    have HA2 := Lib.hid ha1
    clear b1 ha hb hr hg hs1 ha1
    by_cases hm : 1 ≤ cells ∧ cells ≤ 65536
    · obtain ⟨m, rfl⟩ : ∃ m : Nat, cells = m := ⟨cells.toNat, by omega⟩
      have hm1 : 1 ≤ m := by omega
      have hm2 : m ≤ 65536 := by omega
      have hhi := cl_hi (8 * (m : Int))
      by_cases hc : cl (8 * (m : Int)) ≤ S
      · have HN := SkNew_ok HA2.out m hm1 hm2 rfl (by show 0 + cl (8 * (m : Int)) ≤ S; omega) (by show (0 : Nat) < 1000000; decide)
        unfold NkPost at HN
        have HN := Lib.hid HN
        have HCl := Lib.hid (fun w => Class_any (8 * (m : Int)) w (by omega))
        obtain ⟨c, ec⟩ : ∃ c, c = cl (8 * (m : Int)) := ⟨_, rfl⟩
        have HEc := Lib.hid ec
        rw [← ec] at HN HCl hc hhi
        have hd2 : decide ((m : Int) < 1) = false := decide_eq_false (by omega)
        have hd3 : decide (65536 < (m : Int)) = false := decide_eq_false (by omega)
        have hd4 : decide ((S : Int) < (c : Int)) = false := decide_eq_false (by omega)
        have hd5 : decide (S < c) = false := decide_eq_false (by omega)
        clear hm ec
        go_wp2_with (first
          | (go_at_call 14
             refine HN.out.mono ?_
             rintro e w3 ⟨s, rfl, hs, hS, hF⟩
             dsimp only
             have HS3 := Lib.hid hS
             have HL3 := Lib.hid (lo_new B1.out.1 B1.out.2.1 B1.out.2.2.1 B1.out.2.2.2.1 B1.out.2.2.2.2 hF hs)
             clear hs hS hF)
          | (go_at_call 16; refine (HCl.out _).mono ?_; rintro e w' ⟨rfl, rfl⟩; dsimp only))
        have H0 : Hid (SPI w w3 a bb rm gm s m (((nuA S).cut c).take 0 c) 0 (fun _ => 0) (.slice none 0 0)) := Lib.hid ⟨⟨_, HS3.out, fun j hj => by omega⟩, fun j hj => by omega, ownG_nil _, HL3.out⟩
        clear HN HCl
        go_loopw [11, 12, 13, 14, 15, 16, 17, 18, 19, 20, 21, 22, 23, 24, 25, 26, 27] (fun v11 v12 v13 v14 v15 v16 v17 v18 v19 v20 v21 v22 v23 v24 v25 v26 v27 wr => ∃ (j n cm : Nat) (Am : Option Addr) (F : Nat → Nat), j ≤ len ∧ n ≤ 50 * j ∧ v12 = .int .i64 j ∧ v11 = .slice Am n cm ∧ Hid (SPI w wr a bb rm gm s m (((nuA S).cut c).take 0 c) n F (.slice Am n cm))) (fun _ v12 _ _ _ _ _ _ _ _ _ _ _ _ _ _ _ _ => len - (intOf v12).toNat)
        case atStart => exact ⟨0, 0, 0, none, _, Nat.zero_le _, Nat.le_refl _, rfl, rfl, H0⟩
        case round =>
          obtain ⟨j, n, cm, Am, F, hj, hnj, rfl, rfl, HI⟩ := hrel
          clear H0
          by_cases hlt : j < len
          · obtain ⟨b, off, rfl, hbl, hact⟩ := HF.out.2.2 (by omega)
            have HX := Lib.hid (hact j hlt)
            clear hact
            go_upto_block 1 with fail
            rename_i ha
            obtain ⟨⟨kd, x, y, LB, ln, lc, f⟩, hXj⟩ : ∃ Y, Y = X j := ⟨_, rfl⟩
            rw [← hXj] at HX
            clear hXj
            refine sp_round HI.out HX.out hbl hlt hlen hcap hcap2 hnj hm1 hm2 _ _ _ _ _ _ _ _ _ _ _ _ _ _ _ _ _ _ _ _ _ _ _ _ _ _ _ _ _ _ _ _ _ _ _ _ _ _ _ _ _ _ _ _ _ _ _ _ _ _ _ _ _ _ _ _ _ _ _ _ _ _ _ _ _ _ _ _ _ _ _ _ _ _ _ _ _ _ _ _ _ _ _ _ _ _ _ _ _ _ _ _ _ _ _ _ _ _ _ _ _ _ _ _ _ _ _ _ _ _ _ _ _ _ _ _ _ _ _ _ _ _ _ _ _ _ _ _ _ _ _ _ _ _ _ _ _ _ _ _ _ _ _ _ _ _ _ _ _ _ _ _ _ _ _ _ _ _ _ _ _ _ _ _ _ _ _ _ _ _ _ _ _ _ _ _ _ _ _ _ _ _ _ _ _ _ _ _ _ _ _ _ _ _ _ _ _ _ _ _ _ _ _ _ _ _ _ _ _ _ _ _ _ _ _ _ _ _ _ _ _ _ _ _ _ _ _ _ _ _ _ _ _ _ _ _ _ _ _ _ _ _ _ _ _ _ _ _ _ _ _ _ _ _ _ _ _ _ _ _ _ _ _ _ _ _ _ _ _ _ _ _ _ _ _ _ _ _ _ _ _ _ _ _ _ _ _ _ _ _ _ _ _ _ _ _ _ _ _ _ _ _ _ _ _ _ _ _ _ _ _ _ _ _ _ _ _ _ _ _ _ _ _ _ _ _ _ _ _ _ _ _ _ _ _ _ _ _ _ _ _ _ _ _ _ _ _ _ _ _ _ _ _ _ _ _ _ _ _ _ _ _ _ _ _ _ _ _ _ _ _ _ _ _ _ _ _ _ _ _ _ _ _ _ _ _ _ _ (fun F' Am' n' cm' _ _ _ _ _ _ _ _ _ _ _ _ _ _ _ _ _ _ _ _ _ _ _ _ _ _ _ _ _ _ _ _ _ _ _ _ _ _ _ _ _ _ _ _ _ _ _ _ _ _ _ _ _ _ _ _ _ _ _ _ _ _ _ _ _ _ _ _ _ _ _ _ _ _ _ _ _ _ _ _ _ _ _ _ _ _ _ _ _ _ _ _ _ _ _ _ _ _ _ _ _ _ _ _ _ _ _ _ _ _ _ _ _ _ _ _ _ _ _ _ _ _ _ _ _ _ _ _ _ _ _ _ _ _ _ _ _ _ _ _ _ _ _ _ _ _ _ _ _ _ _ _ _ _ _ _ _ _ _ _ _ _ _ _ _ _ _ _ _ _ _ _ _ _ _ _ _ _ _ _ _ _ _ _ _ _ _ _ _ _ _ _ _ _ _ _ _ _ _ _ _ _ _ _ _ _ _ _ _ _ _ _ _ _ _ _ _ _ _ _ _ _ _ _ _ _ _ _ _ _ _ _ _ _ _ _ _ _ _ _ _ _ _ _ _ _ _ _ _ _ _ _ _ _ _ _ _ _ _ _ _ _ _ _ _ _ wr' hn' hI' => ?_) (fun _ _ _ _ _ _ _ _ _ wr' hb' => ?_)
            · refine ha _ _ ?_
              clear ha
              have HSZ := Lib.hid hI'
              clear hI'
              go_wp2
              go_roundw
              case rel => exact ⟨j + 1, n', cm', Am', F', by omega, hn', by go_num, rfl, HSZ⟩
              case measure => simp [intOf]; omega
            · clear ha
              have HBe := Lib.hid hb'
              clear hb'
              go_wp2
              go_ret
              exact ⟨rfl, HBe.out⟩
          · obtain rfl : len = j := by omega
            obtain ⟨M, hsk, hcon⟩ := HI.out.sk
            have hnm : n ≤ m := hsk.hh
            have hcm : n ≤ cm ∧ cm ≤ 9223372036854775807 := by
              obtain ⟨A', c', e, q1, q2⟩ := ownG_slice HI.out.own
              injection e with e1 e2 e3
              subst e3
              exact ⟨q1, q2⟩
            have HGt := Lib.hid (fun (i q : Nat) (hi : i < n) => SkGet_w (hsk.drewN q) hcon i hi)
            have HSK := Lib.hid hsk
            have HV0 := Lib.hid ((hsk.are.own0 c).2.2 rfl)
            clear hsk hcon
            go_wp2
            go_loopw [6, 28, 29, 30] (fun v6 v28 v29 v30 wk => ∃ i q : Nat, i ≤ n ∧ v28 = .int .i64 i ∧ wk = wr.drewN q) (fun _ v28 _ _ _ => n - (intOf v28).toNat)
            case atStart => exact ⟨0, 0, Nat.zero_le _, rfl, rfl⟩
            case round =>
              obtain ⟨i, q, hi, rfl, rfl⟩ := hrel
              by_cases hlt2 : i < n
              · obtain ⟨g, cp, eg, _, _⟩ := ownG_some HI.out.own (by omega)
                injection eg with eg1 eg2 eg3
                subst eg1 eg3
                have t1 : wr.cell? ⟨g, i, none⟩ = some (.int .u64 ((F i : Nat) : Int)) := own_cellW HI.out.own i hlt2
                go_wp2_with (go_at_call 20; refine (HGt.out i q hlt2).mono ?_; rintro e w' ⟨rfl, kq, rfl⟩; dsimp only)
                go_roundw
                case rel => exact ⟨i + 1, _, by omega, by go_num, rfl⟩
                case measure => simp [intOf]; omega
              · obtain rfl : i = n := by omega
                have HC := Close_ok2 (HSK.out.drewN q) c (by simp [Ad.take]) (fun _ => rfl) (by show (0 + 1 : Nat) < 1000000; decide)
                unfold ClPost2 at HC
                have HC := Lib.hid HC
                have HLo := Lib.hid ((HI.out.lo.drewN q).bel)
                have HHs := Lib.hid HI.out.lo.hs
                go_wp2_with (first
                  | (go_at_call 25
                     with_reducible refine HC.out.mono ?_
                     rintro e w4 ⟨rfl, ⟨v, hA⟩, hB, hF⟩
                     dsimp only
                     have HLv := Live_any hA
                     rw [show (Ad.give { ((nuA S).cut c).take 0 c with mem := M } 0 c v).live = 0 by show ((0 : Int) + (c : Int)) - (c : Int) = 0; omega] at HLv
                     have HLv := Lib.hid HLv
                     have HCs := Lib.hid (Close_shut hB)
                     have hB2 := hB.below (below_alloc w4 (.cells #[.int .u64 1] 38)) hB.lt
                     have HPs := Lib.hid (Push_shut hB2 (some ⟨w4.heap.size, 0, none⟩) 1 1)
                     have HHs2 := Lib.hid (SkHeight_shut hB2)
                     have HF4 := Lib.hid hF
                     clear hA hB hF hB2)
                  | (go_at_call 15; with_reducible refine HLv.out.mono ?_; rintro e w' ⟨rfl, rfl⟩; dsimp only)
                  | (go_at_call 25; with_reducible refine HCs.out.mono ?_; rintro e w' ⟨rfl, rfl⟩; dsimp only)
                  | (go_at_call 17; with_reducible refine HPs.out.mono ?_; rintro e w' ⟨rfl, rfl⟩; dsimp only)
                  | (go_at_call 23; with_reducible refine HHs2.out.mono ?_; rintro e w' ⟨rfl, rfl⟩; dsimp only))
                go_ret
                refine ⟨rfl, (HF4.out.below HLo.out HLo.out.size (fun k hk => ?_)).alloc ?_ _⟩
                · rcases hk with rfl | rfl | rfl | rfl | hk
                  · exact HHs.out
                  · exact B1.out.2.1
                  · exact B1.out.2.2.2.1
                  · exact B1.out.2.2.2.2
                  · rw [HV0.out] at hk
                    cases hk
                · exact Nat.le_trans HLo.out.size HF4.out.size
      · have HN := Lib.hid (SkNew_full HA2.out m hm1 hm2 rfl (by show S < 0 + cl (8 * (m : Int)); omega))
        have HCl := Lib.hid (fun w => Class_any (8 * (m : Int)) w (by omega))
        have HLv := Lib.hid (fun k => Live_any (HA2.out.drewN k))
        obtain ⟨c, ec⟩ : ∃ c, c = cl (8 * (m : Int)) := ⟨_, rfl⟩
        rw [← ec] at HCl hc hhi
        clear hm ec
        go_wp2_with (first
          | (go_at_call 14; refine HN.out.mono ?_; rintro e w3 ⟨rfl, kq, rfl⟩; dsimp only)
          | (go_at_call 16; refine (HCl.out _).mono ?_; rintro e w' ⟨rfl, rfl⟩; dsimp only)
          | (go_at_call 15; refine (HLv.out _).mono ?_; rintro e w' ⟨rfl, rfl⟩; dsimp only))
        go_ret
        exact ⟨rfl, below_drewN B1.out.1 _⟩
    · have HN := Lib.hid (SkNew_arg w2 a cells (by omega))
      have HLv : Hid (Calls Try.prog 15 #[.pointer (some ⟨a, 0, none⟩)] w2 fun e w' => e = .returned (.int .i64 0) ∧ w2 = w') := Lib.hid (Live_any HA2.out)
      rcases (by omega : cells < 1 ∨ (1 ≤ cells ∧ 65536 < cells)) with hm3 | ⟨hm3, hm4⟩
      all_goals
        clear hm
        go_wp2_with (first
          | (go_at_call 14; refine HN.out.mono ?_; rintro e w3 ⟨rfl, rfl⟩; dsimp only)
          | (go_at_call 15; refine HLv.out.mono ?_; rintro e w' ⟨rfl, rfl⟩; dsimp only))
        go_ret
        exact ⟨rfl, B1.out.1⟩
  · go_enter Try.func3, Try.ntmps3
    go_wp2_with (go_at_call 12; refine HA.out.mono ?_; rintro e w1 ⟨rfl, hb⟩; dsimp only; have HB := Lib.hid hb; clear hb)
    go_ret
    exact ⟨rfl, HB.out⟩
end Go.Proofs.Ythfdblpodnodcaa
