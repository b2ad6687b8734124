/-
  The walk of grommetlaw03.BlockPlays: any size and capacity, operations that fail from any one on, any row of acts.
-/
import Derived.Test.YtmphpdonpaefpaaSi
import Derived.Deep.DeepCutAuto
import Derived.Deep.CutRange
import Derived.Deep.CutBlock
import Derived.Deep.LoopGhost
import Derived.Outline
namespace Go.Proofs.Ytmphpdonpaefpaa
open Go.RowKit
set_option linter.unusedVariables false
def BR (w : World) (s m lb sz N N0 : Nat) (fail : Int) (k : Nat) (v12 v13 v14 v15 : Value) (wx : World) : Prop :=
  ∃ d pg, v12 = .int .i64 (d.n : Nat) ∧ v13 = .int .i64 (d.peak : Nat) ∧ v14 = .int .i64 (d.ops : Nat) ∧ v15 = .bool d.bad ∧ Hid (PRel w s m lb sz N N0 fail d pg (k + 1) wx)
set_option maxHeartbeats 80000000 in
set_option maxRecDepth 100000 in
theorem blockPlays_walk (a0 a1 a2 : Int) (A : Option Addr) (n cap : Nat) (K : Nat → Nat) (I V : Nat → Int) (L : Nat → Bool) (w : World) (w0 : (Lit.int .i64 a0).wf = true) (w1 : (Lit.int .i64 a1).wf = true) (w2 : (Lit.int .i64 a2).wf = true) (ha : Acts w A n cap K I V L) :
    Calls Try.prog 3 #[.int .i64 a0, .int .i64 a1, .int .i64 a2, .slice A n cap] w fun e w' => e = .returned (.bool true) ∧ Below w.heap.size w w' := by
  have hcap : cap ≤ 9223372036854775807 := ha.2.1
  have hlc : n ≤ cap := ha.1
  have HA := Lib.hid ha
  clear ha w0 w1 w2
  by_cases hbig : 60 < n
  · go_enter Try.func3, Try.ntmps3
    go_wp2_with (go_at_call 12; refine (awake3_any _).mono ?_; rintro e w2 ⟨rfl, hbel⟩; have hB := Lib.hid hbel; clear hbel)
    go_ret
    exact ⟨rfl, hB.out⟩
  · have h2 : n ≤ 60 := by omega
    clear hbig
    by_cases hbad : a0 < 16 ∨ (16 ≤ a0 ∧ 1024 < a0) ∨ (16 ≤ a0 ∧ a0 ≤ 1024 ∧ a1 < 0) ∨ (16 ≤ a0 ∧ a0 ≤ 1024 ∧ 0 ≤ a1 ∧ 4096 < a1)
    · have HBD := Lib.hid hbad
      rcases hbad with h | ⟨h, h'⟩ | ⟨h, h', h''⟩ | ⟨h, h', h'', h'''⟩
      all_goals
        go_enter Try.func3, Try.ntmps3
        go_wp2_with fail
        refine (awake3_any _).mono ?_
        rintro e w2 ⟨rfl, hbel2⟩
        have B2 := Lib.hid hbel2
        clear hbel2
        go_wp2_with fail
        refine (SNew_bad a0 a1 _ HBD.out).mono ?_
        rintro e w3 ⟨rfl, rfl⟩
        go_wp2_with fail
        go_ret
        exact ⟨rfl, B2.out⟩
    · obtain ⟨sz, rfl⟩ := Int.eq_ofNat_of_zero_le (show 0 ≤ a0 by omega)
      obtain ⟨N, rfl⟩ := Int.eq_ofNat_of_zero_le (show 0 ≤ a1 by omega)
      have hz1 : 16 ≤ sz := by omega
      have hz2 : sz ≤ 1024 := by omega
      have hN : N ≤ 4096 := by omega
      clear hbad
      have hd1 : decide ((sz : Int) < 16) = false := decide_eq_false (by omega)
      have hd2 : decide (1024 < (sz : Int)) = false := decide_eq_false (by omega)
      have hd3 : decide (4096 < (N : Int)) = false := decide_eq_false (by omega)
      have hd5 : decide (60 < (n : Int)) = false := decide_eq_false (by omega)
      have hd6 : decide ((N : Int) < 0) = false := decide_eq_false (by omega)
      go_enter Try.func3, Try.ntmps3
      go_wp2_with fail
      refine (awake3_any _).mono ?_
      rintro e w2 ⟨rfl, hbel2⟩
      have B2 := Lib.hid hbel2
      clear hbel2
      go_wp2_with fail
      refine (SNew_ok sz N _ hz1 hz2 hN).mono ?_
      rintro e w3 ⟨s, m, rfl, hst3, hbel3, hs, hm⟩
      have H3 := Lib.hid hst3
      have B3 := Lib.hid hbel3
      clear hst3 hbel3
      go_wp2_with fail
      refine (SFailAt_any H3.out a2).mono ?_
      rintro e w4 ⟨rfl, hst4, hfr4⟩
      obtain ⟨N0, hN0⟩ : ∃ N0, N0 = min N 70 := ⟨_, rfl⟩
      have HN0 := Lib.hid hN0
      have hN1 : N0 ≤ 70 := by omega
      have H4 := Lib.hid hst4
      have F4 := Lib.hid hfr4
      have hN2 : 70 ≤ N → N0 = 70 := by omega
      have hN3 : N ≤ 70 → N0 = N := by omega
      have HN2 := Lib.hid hN2
      have HN3 := Lib.hid hN3
      clear hst4 hfr4 hN0 hN2 hN3
      have hmk : ∀ W : World, (Instr.makeSlice 29 (.int .i64 (N0 : Int)) (.int .i64 (N0 : Int))).run Try.prog W = .ok (.slice (some ⟨W.heap.size, 0, none⟩) N0 N0) (W.alloc (.cells (pgC N0 fun _ => none) 33)) := fun W => mk_pg N0 hN1 W
      have hmk70 : ∀ W : World, (Instr.makeSlice 29 (.int .i64 70) (.int .i64 70)).run Try.prog W = .ok (.slice (some ⟨W.heap.size, 0, none⟩) 70 70) (W.alloc (.cells (pgC 70 fun _ => none) 33)) := fun W => mk_pg 70 (by omega) W
      have fin : Hid (∀ w5, w5 = w4.alloc (.cells (pgC N0 fun _ => none) 33) → Hid (Blk w5 w4.heap.size 33 (pgC N0 fun _ => none)) ∧ Hid (Below w4.heap.size w4 w5)) := Lib.hid (by
        rintro w5 rfl
        exact ⟨Lib.hid (Blk.new _ _ _), Lib.hid ((Below.refl _ _).alloc (Nat.le_refl _) _)⟩)
      go_upto_region 7 with (fail)
      go_cut [11] from 68 to 70 (fun v11 wx => v11 = .slice (some ⟨w4.heap.size, 0, none⟩) N0 N0 ∧ Hid (Blk wx w4.heap.size 33 (pgC N0 fun _ => none)) ∧ Hid (Below w4.heap.size w4 wx))
      case first =>
       as_aux_lemma =>
        by_cases h70 : N ≤ 70
        · obtain rfl := HN3.out h70
          clear hmk70
          go_wp2_with fail
          go_meet
          exact ⟨rfl, fin.out _ rfl⟩
        · obtain rfl := HN2.out (by omega)
          clear hmk
          go_wp2_with fail
          go_meet
          exact ⟨rfl, fin.out _ rfl⟩
      case rest =>
       as_aux_lemma =>
        obtain ⟨rfl, HP, HB5⟩ := hcut
        obtain ⟨lb, hlb⟩ : ∃ lb, lb = w4.heap.size := ⟨_, rfl⟩
        rw [← hlb] at HP ⊢
        have HR0 : Hid (PRel w s m lb sz N N0 a2 { (nu sz N) with fails := a2 } (fun _ => none) 0 wc) := Lib.hid (by
          have b3 := B2.out.trans (B3.out.mono B2.out.size)
          have h1 := Nat.le_trans B2.out.size hs
          have b4 : Below w.heap.size w w4 := F4.out.below b3 b3.size (fun t ht => by rw [ht]; exact h1)
          exact ⟨H4.out.below HB5.out (Nat.le_refl _), b4.trans (HB5.out.mono b4.size), h1, Nat.le_trans B2.out.size hm, by rw [hlb]; exact b4.size, rfl, rfl, rfl, fun i hi => (by cases hi), HP.out, fun i => rfl, fun i v h => (by cases h), Nat.le_refl 0, HN0.out⟩)
        clear HP HB5 H3 H4 F4 B3 hs hm hlb hmk hmk70 fin HN2 HN3
        go_wp2_with fail
        go_loopw [12, 13, 14, 15, 16] (fun v12 v13 v14 v15 v16 wr => ∃ (k : Nat) (d : Sd) (pg : Nat → Option Nat) (bd : Bool), k ≤ n ∧ v16 = .int .i64 k ∧ v12 = .int .i64 (d.n : Nat) ∧ v13 = .int .i64 (d.peak : Nat) ∧ v14 = .int .i64 (d.ops : Nat) ∧ v15 = .bool bd ∧ Hid (bd = d.bad) ∧ Hid (PRel w s m lb sz N N0 a2 d pg k wr)) (fun _ _ _ _ v16 _ => n - (intOf v16).toNat)
        case atStart => exact ⟨0, _, _, _, Nat.zero_le _, rfl, rfl, rfl, rfl, rfl, Lib.hid rfl, HR0⟩
        case round =>
         as_aux_lemma =>
          obtain ⟨k, d, pg, bd, hk, rfl, rfl, rfl, rfl, rfl, HBd, HR⟩ := hrel
          by_cases hlt : k < n
          · obtain ⟨b, off, rfl, hbl, hcell⟩ := HA.out.2.2.2.2 (by omega)
            have d0 : wr.cell? ⟨b, off + k * 4, none⟩ = some (.int .u8 (K k : Nat)) := (HR.out.bel.cell (p := ⟨b, off + k * 4, none⟩) hbl).trans (hcell k hlt).1
            have d1 : wr.cell? ⟨b, off + k * 4 + 1, none⟩ = some (.int .i64 (I k)) := (HR.out.bel.cell (p := ⟨b, off + k * 4 + 1, none⟩) hbl).trans (hcell k hlt).2.1
            have d2 : wr.cell? ⟨b, off + k * 4 + 2, none⟩ = some (.int .i64 (V k)) := (HR.out.bel.cell (p := ⟨b, off + k * 4 + 2, none⟩) hbl).trans (hcell k hlt).2.2.1
            have d3 : wr.cell? ⟨b, off + k * 4 + 3, none⟩ = some (.bool (L k)) := (HR.out.bel.cell (p := ⟨b, off + k * 4 + 3, none⟩) hbl).trans (hcell k hlt).2.2.2
            have hK := HA.out.2.2.1 k
            have hI := (HA.out.2.2.2.1 k).1
            have hV := (HA.out.2.2.2.1 k).2
            have hopk := HR.out.ops
            clear hcell hbl
            generalize K k = kd at *
            generalize I k = x at *
            generalize V k = vv at *
            generalize L k = lo at *
            have hHI := Lib.hid hI
            have hHV := Lib.hid hV
            clear hI hV
            obtain ⟨fb, hfb⟩ : ∃ fb, fb = d.fl := ⟨_, rfl⟩
            have HFb := Lib.hid hfb
            clear hfb
            go_upto_region 14 with (fail)
            obtain ⟨ac, hac⟩ : ∃ ac, ac = wr.heap.size := ⟨_, rfl⟩
            obtain ⟨wa, hwa⟩ : ∃ wa, wa = wr.alloc (.cells #[.int .u8 (kd : Nat), .int .i64 x, .int .i64 vv, .bool lo] 31) := ⟨_, rfl⟩
            have HRa : Hid (PRel w s m lb sz N N0 a2 d pg k wa) := Lib.hid (by
              rw [hwa]; exact HR.out.mv ((Below.refl _ _).alloc (Nat.le_refl _) _))
            have hAb : Blk wa ac 31 #[.int .u8 (kd : Nat), .int .i64 x, .int .i64 vv, .bool lo] := by
              rw [hwa, hac]; exact Blk.new _ _ _
            have HAb := Lib.hid hAb
            have e0 : wa.cell? ⟨ac, 0, none⟩ = some (.int .u8 (kd : Nat)) := hAb.cell 0
            have e1 : wa.cell? ⟨ac, 1, none⟩ = some (.int .i64 x) := hAb.cell 1
            have e2 : wa.cell? ⟨ac, 2, none⟩ = some (.int .i64 vv) := hAb.cell 2
            have e3 : wa.cell? ⟨ac, 3, none⟩ = some (.bool lo) := hAb.cell 3
            rw [← hwa, ← hac]
            clear hwa hac d0 d1 d2 d3 hAb HR
            go_cut [18] from 71 to 373 (fun v18 wx => v18 = .bool fb ∧ wa = wx)
            case first =>
             as_aux_lemma =>
              have hfb : fb = decide (0 ≤ a2 ∧ a2 ≤ (d.ops : Int)) := by rw [HFb.out, HRa.out.fl]
              have HF2 := Lib.hid hfb
              clear hfb
              by_cases h1 : 0 ≤ a2
              · by_cases h2 : a2 ≤ (d.ops : Int)
                · go_wp2_with fail
                  go_meet
                  exact ⟨congrArg Value.bool (by rw [HF2.out]; simp [h1, h2]), rfl⟩
                · go_wp2_with fail
                  go_meet
                  exact ⟨congrArg Value.bool (by rw [HF2.out]; simp; omega), rfl⟩
              · go_wp2_with fail
                go_meet
                exact ⟨congrArg Value.bool (by rw [HF2.out]; simp; omega), rfl⟩
            case rest =>
             as_aux_lemma =>
              obtain ⟨rfl, rfl⟩ := hcut
              go_upto_region 15 with (fail)
              obtain ⟨ib, hib⟩ : ∃ ib, ib = (d.f x).isSome := ⟨_, rfl⟩
              have HIb := Lib.hid hib
              clear hib
              go_cut [19] from 71 to 373 (fun v19 wx => v19 = .bool ib ∧ wa = wx)
              case first =>
               as_aux_lemma =>
                by_cases h1 : 0 ≤ x
                · obtain ⟨j, rfl⟩ := Int.eq_ofNat_of_zero_le h1
                  have hij : ib = (pg j).isSome := HIb.out.trans (HRa.out.f_ j)
                  by_cases h2 : j < N0
                  · have g0 : wa.cell? ⟨lb, j * 2, none⟩ = some (.bool ib) := by rw [hij]; exact (HRa.out.row.cell (j * 2)).trans (pgC_u h2)
                    clear hij
                    go_wp2_with fail
                    go_meet
                    exact ⟨rfl, rfl⟩
                  · have hif : ib = false := by
                      rw [hij]
                      cases h : (pg j).isSome
                      · rfl
                      · exact absurd (HRa.out.in0 (by omega) h) h2
                    have HIF := Lib.hid hif
                    clear hij hif
                    go_wp2_with fail
                    go_meet
                    exact ⟨congrArg Value.bool HIF.out.symm, rfl⟩
                · have hif : ib = false := by rw [HIb.out, Sd.f, if_neg h1]; rfl
                  have HIF := Lib.hid hif
                  clear hif
                  go_wp2_with fail
                  go_meet
                  exact ⟨congrArg Value.bool HIF.out.symm, rfl⟩
              case rest =>
               as_aux_lemma =>
                obtain ⟨rfl, rfl⟩ := hcut
                have hq4 : ∃ q : Nat, ((kd : Int) % 4) = (q : Int) ∧ q < 4 := ⟨kd % 4, by omega, by omega⟩
                obtain ⟨q, hq, hq4⟩ := hq4
                have HQ := Lib.hid hq
                clear hq
                go_upto_block 2 with (fail)
                rw [HQ.out]
                go_cut [12, 13, 14, 15, 20, 21, 22, 23, 24, 25, 26, 27, 28, 29, 30] from 71 to 373 (fun v12 v13 v14 v15 _ _ _ _ _ _ _ _ _ _ _ wx => BR w s m lb sz N N0 a2 k v12 v13 v14 v15 wx)
                case first =>
                  have hneZ : ∀ z : Int, (z != z) = false := by simp
                  have hn4 : d.n ≤ 4096 := Nat.le_trans HRa.out.num4 hN
                  have hqq : q = 0 ∨ q = 1 ∨ q = 2 ∨ q = 3 := by omega
                  clear hq4 HQ
                  rcases hqq with rfl | rfl | rfl | rfl
                  · as_aux_lemma =>
                    cases fb with
                    | true =>
                      cases bd
                      all_goals
                        as_aux_lemma =>
                         go_wp2_with fail
                         refine (Alloc_fault s m d wa HRa.out.sto (by omega) HFb.out.symm).mono ?_
                         rintro e w6 ⟨rfl, h6, f6⟩
                         have HC := Lib.hid (HRa.out.opd h6 f6)
                         have hbad : d.op.bad = true := by show (d.bad || d.fl) = true; rw [← HFb.out]; simp
                         have HBD := Lib.hid hbad
                         clear h6 f6 hbad
                         go_wp2_with fail
                         go_meet
                         exact ⟨d.op, pg, rfl, rfl, by first | rfl | go_num, by rw [HBD.out], HC⟩
                    | false =>
                      by_cases hn : d.n = N
                      · have he : ((d.n : Int) == (N : Int)) = true := by simp [hn]
                        have HN := Lib.hid hn
                        clear hn
                        cases bd
                        all_goals
                          as_aux_lemma =>
                           go_wp2_with fail
                           refine (Alloc_full s m d wa HRa.out.sto (by omega) HFb.out.symm (HN.out.trans HRa.out.cap.symm)).mono ?_
                           rintro e w6 ⟨rfl, h6, f6⟩
                           have HC := Lib.hid (HRa.out.opd h6 f6)
                           have hbad : d.op.bad = d.bad := by show (d.bad || d.fl) = d.bad; rw [← HFb.out]; simp
                           have HBD := Lib.hid hbad
                           clear h6 f6 hbad
                           go_wp2_with fail
                           go_meet
                           exact ⟨d.op, pg, rfl, rfl, by first | rfl | go_num, by rw [HBD.out, ← HBd.out], HC⟩
                      · have hcc := HRa.out.cap
                        have hdn : d.n < d.cap := by
                          have h1 : d.n ≤ d.cap := by rw [HRa.out.sto.num]; exact cnt_le _ _
                          omega
                        have he : ((d.n : Int) == (N : Int)) = false := by simp; omega
                        have HDN := Lib.hid hdn
                        clear hn hcc hdn
                        cases bd
                        all_goals
                          as_aux_lemma =>
                           go_wp2_with fail
                           refine (Alloc_ok s m d wa HRa.out.sto (by omega) HFb.out.symm HDN.out).mono ?_
                           rintro e w6 ⟨L0, G, rfl, hL, hG, h6, f6⟩
                           have hLk : L0 ≤ k := by
                             rcases Nat.eq_zero_or_pos L0 with e | e
                             · omega
                             · have := hL.2.1 (L0 - 1) (by omega)
                               rw [HRa.out.some_] at this
                               obtain ⟨v, hv⟩ := Option.isSome_iff_exists.1 this
                               have := (HRa.out.lt _ v hv).1
                               omega
                           have hLN : L0 < N0 := by
                             have h1 := hL.2.2
                             have h2 := HRa.out.cap
                             have h3 := HRa.out.n0
                             omega
                           have HB6 : Hid (Blk w6 lb 33 (pgC N0 pg)) := Lib.hid (HRa.out.row.fr f6 (fun h => by rcases h with h | h; exact HRa.out.ls h; exact HRa.out.lm h))
                           have HAl : Hid (∀ w3, w3 = (w6.setCell ⟨lb, L0 * 2, none⟩ (.bool true)).setCell ⟨lb, L0 * 2 + 1, none⟩ (.int .u8 0) → PRel w s m lb sz N N0 a2 (d.op.al L0 G) (up pg L0 (some 0)) (k + 1) w3) := Lib.hid (fun w3 hw => HRa.out.al (by omega) hL hG h6 f6 w3 hw)
                           have HLo : Hid ((pg L0).isSome = false ∧ ∀ i, i < L0 → (pg i).isSome = true) := Lib.hid ⟨by rw [← HRa.out.some_, hL.1]; rfl, fun i hi => by rw [← HRa.out.some_]; exact hL.2.1 i hi⟩
                           have hbad : (d.op.al L0 G).bad = d.bad := by show (d.bad || d.fl) = d.bad; rw [← HFb.out]; simp
                           have HBD := Lib.hid hbad
                           clear hL hG h6 f6 hbad e0 e1 e2 e3
                           go_wp2_with fail
                           go_loop [22] (fun v22 => ∃ j : Nat, j ≤ L0 ∧ v22 = .int .i64 j) (fun v22 => L0 - (intOf v22).toNat)
                           case atStart => exact ⟨0, Nat.zero_le _, rfl⟩
                           case round =>
                             obtain ⟨j, hj, rfl⟩ := hrel
                             by_cases hjl : j < L0
                             · have g0 : w6.cell? ⟨lb, j * 2, none⟩ = some (.bool true) := by rw [HB6.out.cell, pgC_u (by omega), HLo.out.2 j hjl]
                               go_wp2_with fail
                               go_round
                               case rel => exact ⟨j + 1, by omega, by go_num⟩
                               case measure => simp [intOf]; omega
                             · obtain rfl : j = L0 := by omega
                               have g0 : w6.cell? ⟨lb, j * 2, none⟩ = some (.bool false) := by rw [HB6.out.cell, pgC_u (by omega), HLo.out.1]
                               have z0 := HB6.out.frozen (j * 2)
                               have z1 := HB6.out.frozen (j * 2 + 1)
                               have g1 : ∃ v0, w6.cell? ⟨lb, j * 2 + 1, none⟩ = some v0 := ⟨_, by rw [HB6.out.cell, pgC_o (by omega)]⟩
                               obtain ⟨v0, g1⟩ := g1
                               go_wp2_with fail
                               all_goals
                                 go_meet
                                 exact ⟨d.op.al j G, up pg j (some 0), by first | rfl | go_num, by (first | exact congrArg (Value.int .i64) (peak_int d.peak d.n) | (show Value.int _ _ = Value.int .i64 ((max d.peak (d.n + 1) : Nat) : Int); congr 1; omega)), by first | rfl | go_num, by rw [HBD.out, ← HBd.out], Lib.hid (HAl.out _ rfl)⟩
                  · as_aux_lemma =>
                    cases ib with
                    | false =>
                      as_aux_lemma =>
                       go_wp2_with fail
                       refine (Free_no s m d x wa HRa.out.sto hHI.out HIb.out.symm).mono ?_
                       rintro e w6 ⟨rfl, rfl⟩
                       go_wp2_with fail
                       go_meet
                       exact ⟨d, pg, rfl, rfl, rfl, by rw [HBd.out], Lib.hid HRa.out.next⟩
                    | true =>
                      obtain ⟨j, rfl⟩ : ∃ j : Nat, x = (j : Int) := by
                        by_cases h1 : 0 ≤ x
                        · exact Int.eq_ofNat_of_zero_le h1
                        · have := HIb.out
                          rw [Sd.f, if_neg h1] at this
                          cases this
                      have HJ : Hid ((pg j).isSome = true) := Lib.hid ((HRa.out.f_ j).symm.trans HIb.out.symm)
                      have hjN : j < N0 := HRa.out.in0 (by omega) HJ.out
                      cases fb with
                      | true =>
                        cases bd
                        all_goals
                          as_aux_lemma =>
                           go_wp2_with fail
                           refine (Free_fault s m d j wa HRa.out.sto hHI.out HIb.out.symm (by omega) HFb.out.symm).mono ?_
                           rintro e w6 ⟨rfl, h6, f6⟩
                           have HC := Lib.hid (HRa.out.opd h6 f6)
                           have hbad : d.op.bad = true := by show (d.bad || d.fl) = true; rw [← HFb.out]; simp
                           have HBD := Lib.hid hbad
                           clear h6 f6 hbad
                           go_wp2_with fail
                           go_meet
                           exact ⟨d.op, pg, rfl, rfl, by first | rfl | go_num, by rw [HBD.out], HC⟩
                      | false =>
                        have hnp : 1 ≤ d.n := by
                          rw [HRa.out.sto.num]
                          exact cnt_pos (by rw [HRa.out.some_]; exact HJ.out) (HRa.out.sto.dom j (by rw [HRa.out.some_]; exact HJ.out))
                        cases bd
                        all_goals
                          as_aux_lemma =>
                           go_wp2_with fail
                           refine (Free_ok s m d j wa HRa.out.sto (by rw [HRa.out.some_]; exact HJ.out) (by omega) HFb.out.symm).mono ?_
                           rintro e w6 ⟨rfl, h6, f6⟩
                           have HB6 : Hid (Blk w6 lb 33 (pgC N0 pg)) := Lib.hid (HRa.out.row.fr f6 (fun h => by rcases h with h | h; exact HRa.out.ls h; exact HRa.out.lm h))
                           have HFr : Hid (∀ w3, w3 = (w6.setCell ⟨lb, j * 2, none⟩ (.bool false)).setCell ⟨lb, j * 2 + 1, none⟩ (.int .u8 0) → PRel w s m lb sz N N0 a2 (d.op.fr j) (up pg j none) (k + 1) w3) := Lib.hid (fun w3 hw => HRa.out.fre h6 f6 w3 hw)
                           have hbad : (d.op.fr j).bad = d.bad := by show (d.bad || d.fl) = d.bad; rw [← HFb.out]; simp
                           have HBD := Lib.hid hbad
                           have HA6 : Hid (Blk w6 ac 31 #[.int .u8 (kd : Nat), .int .i64 j, .int .i64 vv, .bool lo]) := Lib.hid (HAb.out.fr f6 (fun h => by
                             rcases h with h | h
                             · exact HAb.out.ne_ HRa.out.sto.blk (by decide) h
                             · exact HRa.out.sto.im.ne_ HAb.out h.symm))
                           have e1' : w6.cell? ⟨ac, 1, none⟩ = some (.int .i64 (j : Int)) := HA6.out.cell 1
                           have z0 := HB6.out.frozen (j * 2)
                           have z1 := HB6.out.frozen (j * 2 + 1)
                           have g0 : ∃ v0, w6.cell? ⟨lb, j * 2, none⟩ = some v0 := ⟨_, by rw [HB6.out.cell, pgC_u hjN]⟩
                           obtain ⟨v0, g0⟩ := g0
                           have g1 : ∃ v0, w6.cell? ⟨lb, j * 2 + 1, none⟩ = some v0 := ⟨_, by rw [HB6.out.cell, pgC_o hjN]⟩
                           obtain ⟨v1, g1⟩ := g1
                           clear h6 f6 hbad e0 e1 e2 e3
                           go_wp2_with fail
                           go_meet
                           exact ⟨d.op.fr j, up pg j none, by (show Value.int _ _ = Value.int .i64 ((d.n - 1 : Nat) : Int); congr 1; omega), rfl, by first | rfl | go_num, by rw [HBD.out, ← HBd.out], Lib.hid (HFr.out _ rfl)⟩
                  · as_aux_lemma =>
                    cases ib with
                    | false =>
                      as_aux_lemma =>
                       go_wp2_with fail
                       refine (Read_no s m d x wa HRa.out.sto hHI.out HIb.out.symm).mono ?_
                       rintro e w6 ⟨rfl, rfl⟩
                       go_wp2_with fail
                       go_meet
                       exact ⟨d, pg, rfl, rfl, rfl, by rw [HBd.out], Lib.hid HRa.out.next⟩
                    | true =>
                      obtain ⟨j, rfl⟩ : ∃ j : Nat, x = (j : Int) := by
                        by_cases h1 : 0 ≤ x
                        · exact Int.eq_ofNat_of_zero_le h1
                        · have := HIb.out
                          rw [Sd.f, if_neg h1] at this
                          cases this
                      have HJ : Hid ((pg j).isSome = true) := Lib.hid ((HRa.out.f_ j).symm.trans HIb.out.symm)
                      have hjN : j < N0 := HRa.out.in0 (by omega) HJ.out
                      cases fb with
                      | true =>
                        cases bd
                        all_goals
                          as_aux_lemma =>
                           go_wp2_with fail
                           refine (Read_fault s m d j wa HRa.out.sto hHI.out HIb.out.symm (by omega) HFb.out.symm).mono ?_
                           rintro e w6 ⟨rfl, h6, f6⟩
                           have HC := Lib.hid (HRa.out.opd h6 f6)
                           have hbad : d.op.bad = true := by show (d.bad || d.fl) = true; rw [← HFb.out]; simp
                           have HBD := Lib.hid hbad
                           clear h6 f6 hbad
                           go_wp2_with fail
                           go_meet
                           exact ⟨d.op, pg, rfl, rfl, by first | rfl | go_num, by rw [HBD.out], HC⟩
                      | false =>
                        obtain ⟨v, hv⟩ := Option.isSome_iff_exists.1 HJ.out
                        have hv256 := (HRa.out.lt j v hv).2
                        have HV := Lib.hid hv
                        clear hv
                        obtain ⟨z, hz1', hz2', hzi⟩ : ∃ z : Nat, z + 1 ≤ sz ∧ sz ≤ z + 1 ∧ (sz : Int) - 1 = (z : Int) := ⟨sz - 1, by omega, by omega, by omega⟩
                        cases bd
                        all_goals
                          as_aux_lemma =>
                           go_wp2_with fail
                           refine (Read_ok2 s m sz d j (List.replicate sz v) wa HRa.out.sto HRa.out.size (by rw [HRa.out.tie, HV.out]; rfl) (by omega) HFb.out.symm).mono ?_
                           rintro e w6 ⟨b6, rfl, hb6, hby6, hbk6, h6, f6⟩
                           have HC := Lib.hid (HRa.out.opd h6 f6)
                           have hbad : d.op.bad = d.bad := by show (d.bad || d.fl) = d.bad; rw [← HFb.out]; simp
                           have HBD := Lib.hid hbad
                           have r0 : w6.cell? ⟨b6, 0, none⟩ = some (.int .u8 (v : Nat)) := by
                             rw [hbk6.cell, List.getElem?_toArray, List.getElem?_map, List.getElem?_replicate, if_pos (by omega)]; rfl
                           have r1 : w6.cell? ⟨b6, z, none⟩ = some (.int .u8 (v : Nat)) := by
                             rw [hbk6.cell, List.getElem?_toArray, List.getElem?_map, List.getElem?_replicate, if_pos (by omega)]; rfl
                           have g1 : w6.cell? ⟨lb, j * 2 + 1, none⟩ = some (.int .u8 (v : Nat)) := by rw [HC.out.row.cell, pgC_o hjN, HV.out]; rfl
                           have HA6 : Hid (Blk w6 ac 31 #[.int .u8 (kd : Nat), .int .i64 j, .int .i64 vv, .bool lo]) := Lib.hid (HAb.out.fr f6 (fun h => HAb.out.ne_ HRa.out.sto.blk (by decide) h))
                           have e1' : w6.cell? ⟨ac, 1, none⟩ = some (.int .i64 (j : Int)) := HA6.out.cell 1
                           clear h6 f6 hbad e0 e1 e2 e3 hby6 hbk6 hb6
                           go_wp2_with fail
                           go_quiet (fail)
                           go_wp2_with fail
                           go_meet
                           exact ⟨d.op, pg, rfl, rfl, by first | rfl | go_num, by rw [HBD.out, ← HBd.out], Lib.hid (HC.out.drewN _)⟩
                  · as_aux_lemma =>
                    obtain ⟨vb, hvb, hvb2⟩ : ∃ vb : Nat, vv % 256 = (vb : Int) ∧ vb < 256 := ⟨(vv % 256).toNat, by omega, by omega⟩
                    obtain ⟨j0, hjj, hy0, hy1, hy2⟩ := info_parts info5
                    cases ib with
                    | false =>
                      cases lo with
                      | false =>
                        as_aux_lemma =>
                          go_wp2_with (first
                            | (at_make
                               refine wpList_make_lc _ rfl (.tmp 114) (.tmp 114) 37 rfl 5 j0 _ Try.underlying37 hjj hy0 hy1 .i64 .i64 _ _ sz sz rfl rfl rfl rfl (Nat.le_refl _) (by rw [hy2]; omega) (by unfold maxLen; omega) ?_
                               intro w5 hg5 hbel5
                               have HG5 : Hid (Blk w5 wa.heap.size 5 ((fillL 0 sz vb).map U8).toArray) := Lib.hid (by
                                 have := hg5.out
                                 rw [show fillL 0 sz vb = zs sz from by simp [fillL, zs], ← made_zs]
                                 exact this)
                               have HB5 := Lib.hid hbel5
                               clear hg5 hbel5))
                          obtain ⟨bq, hbq⟩ : ∃ bq, bq = wa.heap.size := ⟨_, rfl⟩
                          have HBQ := Lib.hid hbq
                          rw [← hbq] at HG5 ⊢
                          have HA5 : Hid (Blk w5 ac 31 #[.int .u8 (kd : Nat), .int .i64 x, .int .i64 vv, .bool false]) := Lib.hid (HAb.out.below HB5.out HAb.out.lt)
                          have HQQ : Hid (ac ≠ bq ∧ w.heap.size ≤ bq ∧ lb ≠ bq ∧ ∀ t, d.mine s m t → t ≠ bq) := Lib.hid ⟨by have := HAb.out.lt; omega, by rw [hbq]; exact HRa.out.bel.size, by have := HRa.out.row.lt; omega, fun t ht => by have := HRa.out.sto.mlt ht; omega⟩
                          clear hbq e0 e1 e2 e3
                          go_loopw [28] (fun v28 wr => ∃ q : Nat, q ≤ sz ∧ v28 = .int .i64 q ∧ Hid (Blk wr bq 5 ((fillL q sz vb).map U8).toArray) ∧ Hid (Fr (· = bq) w5 wr)) (fun v28 _ => sz - (intOf v28).toNat)
                          case atStart => exact ⟨0, Nat.zero_le _, rfl, HG5, Lib.hid (Fr.refl _ w5)⟩
                          case round =>
                            obtain ⟨q, hq, rfl, HQ, HF⟩ := hrel
                            have HA6 : Hid (Blk wr ac 31 #[.int .u8 (kd : Nat), .int .i64 x, .int .i64 vv, .bool false]) := Lib.hid (HA5.out.fr HF.out HQQ.out.1)
                            have e1' : wr.cell? ⟨ac, 1, none⟩ = some (.int .i64 x) := HA6.out.cell 1
                            have e2' : wr.cell? ⟨ac, 2, none⟩ = some (.int .i64 vv) := HA6.out.cell 2
                            by_cases hq2 : q < sz
                            · have e0l : (fillL q sz vb).length = sz := by simp [fillL]; omega
                              have d5 : ∃ v0, wr.cell? ⟨bq, q, none⟩ = some v0 := by
                                rw [HQ.out.cell q, List.getElem?_toArray]
                                exact ⟨_, List.getElem?_eq_getElem (by rw [List.length_map, e0l]; exact hq2)⟩
                              obtain ⟨v0, d5⟩ := d5
                              have z5 := HQ.out.frozen q
                              have HN' : Hid (Blk (wr.setCell ⟨bq, q, none⟩ (.int .u8 (vb : Nat))) bq 5 ((fillL (q + 1) sz vb).map U8).toArray) := Lib.hid (fillL_blk HQ.out hq2)
                              have HFN : Hid (Fr (· = bq) w5 (wr.setCell ⟨bq, q, none⟩ (.int .u8 (vb : Nat)))) := Lib.hid (HF.out.set_ (p := ⟨bq, q, none⟩) rfl _)
                              clear e0l e1'
                              go_wp2_with fail
                              go_roundw
                              case rel => exact ⟨q + 1, by omega, by go_num, HN', HFN⟩
                              case measure => simp [intOf]; omega
                            · obtain rfl : sz = q := by omega
                              have HP5 : Hid (PRel w s m lb sz N N0 a2 d pg k wr) := Lib.hid ((HRa.out.mv HB5.out).frame HF.out (fun t ht => by rw [ht]; exact HQQ.out.2.1) HQQ.out.2.2.1 (fun t ht e => HQQ.out.2.2.2 t ht e))
                              have HY : Hid (Byt wr (some ⟨bq, 0, none⟩) sz sz (List.replicate sz vb)) := Lib.hid (by
                                have h1 := HQ.out
                                rw [show fillL sz sz vb = List.replicate sz vb from by simp [fillL]] at h1
                                exact byt_of_blk h1 (by simp) (fun x hx => by have := List.eq_of_mem_replicate hx; omega) (by unfold maxLen; omega))
                              have HK5 : Hid (Blk wr bq 5 ((List.replicate sz vb).map U8).toArray) := Lib.hid (by
                                have h1 := HQ.out
                                rw [show fillL sz sz vb = List.replicate sz vb from by simp [fillL]] at h1
                                exact h1)
                              go_wp2_with fail
                              refine (Write_no s m d x (some ⟨bq, 0, none⟩) sz sz wr HP5.out.sto hHI.out HIb.out.symm).mono ?_
                              rintro e w6 ⟨rfl, hw6⟩
                              have H66 : Hid (Blk w6 bq 5 ((List.replicate sz vb).map U8).toArray ∧ Blk w6 ac 31 #[.int .u8 (kd : Nat), .int .i64 x, .int .i64 vv, .bool false] ∧ PRel w s m lb sz N N0 a2 d pg k w6) := Lib.hid (by rw [← hw6]; exact ⟨HK5.out, HA6.out, HP5.out⟩)
                              have HK6 := Lib.hid H66.out.1
                              have HA6w := Lib.hid H66.out.2.1
                              have HP5 := Lib.hid H66.out.2.2
                              clear hw6 e1' e2'
                              go_wp2_with fail
                              go_loopw [30] (fun v30 wr => ∃ (q : Nat) (ls : List Nat), q ≤ sz ∧ ls.length = sz ∧ v30 = .int .i64 q ∧ Hid (Blk wr bq 5 (ls.map U8).toArray) ∧ Hid (Fr (· = bq) w6 wr)) (fun v30 _ => sz - (intOf v30).toNat)
                              case atStart => exact ⟨0, _, Nat.zero_le _, by simp, rfl, HK6, Lib.hid (Fr.refl _ w6)⟩
                              case round =>
                                obtain ⟨q, ls, hq, hls, rfl, HQ7, HF7⟩ := hrel
                                by_cases hq2 : q < sz
                                · obtain ⟨y, hy⟩ : ∃ y : Nat, ls[q]? = some y := ⟨_, List.getElem?_eq_getElem (by omega)⟩
                                  have d5 : wr.cell? ⟨bq, q, none⟩ = some (.int .u8 (y : Nat)) := by
                                    rw [HQ7.out.cell q, List.getElem?_toArray, List.getElem?_map, hy]; rfl
                                  have z5 := HQ7.out.frozen q
                                  obtain ⟨y2, hy2'⟩ : ∃ y2 : Nat, ((y : Int) + 1) % 256 = (y2 : Int) := ⟨(y + 1) % 256, by omega⟩
                                  have HN' : Hid (Blk (wr.setCell ⟨bq, q, none⟩ (.int .u8 (y2 : Nat))) bq 5 ((ls.set q y2).map U8).toArray) := Lib.hid (set_blk HQ7.out)
                                  have HFN : Hid (Fr (· = bq) w6 (wr.setCell ⟨bq, q, none⟩ (.int .u8 (y2 : Nat)))) := Lib.hid (HF7.out.set_ (p := ⟨bq, q, none⟩) rfl _)
                                  have HLS := Lib.hid hls
                                  clear hy hls
                                  go_wp2_with fail
                                  go_roundw
                                  case rel => exact ⟨q + 1, ls.set q y2, by omega, by rw [List.length_set]; exact HLS.out, by go_num, HN', HFN⟩
                                  case measure => simp [intOf]; omega
                                · obtain rfl : sz = q := by omega
                                  clear hls
                                  have HA7 : Hid (Blk wr ac 31 #[.int .u8 (kd : Nat), .int .i64 x, .int .i64 vv, .bool false]) := Lib.hid (HA6w.out.fr HF7.out HQQ.out.1)
                                  have e1'' : wr.cell? ⟨ac, 1, none⟩ = some (.int .i64 x) := HA7.out.cell 1
                                  have e2'' : wr.cell? ⟨ac, 2, none⟩ = some (.int .i64 vv) := HA7.out.cell 2
                                  have e3'' : wr.cell? ⟨ac, 3, none⟩ = some (.bool false) := HA7.out.cell 3
                                  have HC : Hid (PRel w s m lb sz N N0 a2 d pg (k + 1) wr) := Lib.hid ((HP5.out.frame HF7.out (fun t ht => by rw [ht]; exact HQQ.out.2.1) HQQ.out.2.2.1 (fun t ht e => HQQ.out.2.2.2 t ht e)).next)
                                  go_wp2_with fail
                                  go_meet
                                  exact ⟨d, pg, rfl, rfl, rfl, by rw [HBd.out], HC⟩
                      | true =>
                        as_aux_lemma =>
                          go_wp2_with (first
                            | (at_make
                               refine wpList_make_lc _ rfl (.tmp 114) (.tmp 114) 37 rfl 5 j0 _ Try.underlying37 hjj hy0 hy1 .i64 .i64 _ _ (sz + 1) (sz + 1) rfl rfl rfl rfl (Nat.le_refl _) (by rw [hy2]; omega) (by unfold maxLen; omega) ?_
                               intro w5 hg5 hbel5
                               have HG5 : Hid (Blk w5 wa.heap.size 5 ((fillL 0 (sz + 1) vb).map U8).toArray) := Lib.hid (by
                                 have := hg5.out
                                 rw [show fillL 0 (sz + 1) vb = zs (sz + 1) from by simp [fillL, zs], ← made_zs]
                                 exact this)
                               have HB5 := Lib.hid hbel5
                               clear hg5 hbel5))
                          obtain ⟨bq, hbq⟩ : ∃ bq, bq = wa.heap.size := ⟨_, rfl⟩
                          have HBQ := Lib.hid hbq
                          rw [← hbq] at HG5 ⊢
                          have HA5 : Hid (Blk w5 ac 31 #[.int .u8 (kd : Nat), .int .i64 x, .int .i64 vv, .bool true]) := Lib.hid (HAb.out.below HB5.out HAb.out.lt)
                          have HQQ : Hid (ac ≠ bq ∧ w.heap.size ≤ bq ∧ lb ≠ bq ∧ ∀ t, d.mine s m t → t ≠ bq) := Lib.hid ⟨by have := HAb.out.lt; omega, by rw [hbq]; exact HRa.out.bel.size, by have := HRa.out.row.lt; omega, fun t ht => by have := HRa.out.sto.mlt ht; omega⟩
                          clear hbq e0 e1 e2 e3
                          go_loopw [28] (fun v28 wr => ∃ q : Nat, q ≤ (sz + 1) ∧ v28 = .int .i64 q ∧ Hid (Blk wr bq 5 ((fillL q (sz + 1) vb).map U8).toArray) ∧ Hid (Fr (· = bq) w5 wr)) (fun v28 _ => (sz + 1) - (intOf v28).toNat)
                          case atStart => exact ⟨0, Nat.zero_le _, rfl, HG5, Lib.hid (Fr.refl _ w5)⟩
                          case round =>
                            obtain ⟨q, hq, rfl, HQ, HF⟩ := hrel
                            have HA6 : Hid (Blk wr ac 31 #[.int .u8 (kd : Nat), .int .i64 x, .int .i64 vv, .bool true]) := Lib.hid (HA5.out.fr HF.out HQQ.out.1)
                            have e1' : wr.cell? ⟨ac, 1, none⟩ = some (.int .i64 x) := HA6.out.cell 1
                            have e2' : wr.cell? ⟨ac, 2, none⟩ = some (.int .i64 vv) := HA6.out.cell 2
                            by_cases hq2 : q < (sz + 1)
                            · have e0l : (fillL q (sz + 1) vb).length = (sz + 1) := by simp [fillL]; omega
                              have d5 : ∃ v0, wr.cell? ⟨bq, q, none⟩ = some v0 := by
                                rw [HQ.out.cell q, List.getElem?_toArray]
                                exact ⟨_, List.getElem?_eq_getElem (by rw [List.length_map, e0l]; exact hq2)⟩
                              obtain ⟨v0, d5⟩ := d5
                              have z5 := HQ.out.frozen q
                              have HN' : Hid (Blk (wr.setCell ⟨bq, q, none⟩ (.int .u8 (vb : Nat))) bq 5 ((fillL (q + 1) (sz + 1) vb).map U8).toArray) := Lib.hid (fillL_blk HQ.out hq2)
                              have HFN : Hid (Fr (· = bq) w5 (wr.setCell ⟨bq, q, none⟩ (.int .u8 (vb : Nat)))) := Lib.hid (HF.out.set_ (p := ⟨bq, q, none⟩) rfl _)
                              clear e0l e1'
                              go_wp2_with fail
                              go_roundw
                              case rel => exact ⟨q + 1, by omega, by go_num, HN', HFN⟩
                              case measure => simp [intOf]; omega
                            · obtain rfl : (sz + 1) = q := by omega
                              have HP5 : Hid (PRel w s m lb sz N N0 a2 d pg k wr) := Lib.hid ((HRa.out.mv HB5.out).frame HF.out (fun t ht => by rw [ht]; exact HQQ.out.2.1) HQQ.out.2.2.1 (fun t ht e => HQQ.out.2.2.2 t ht e))
                              have HY : Hid (Byt wr (some ⟨bq, 0, none⟩) (sz + 1) (sz + 1) (List.replicate (sz + 1) vb)) := Lib.hid (by
                                have h1 := HQ.out
                                rw [show fillL (sz + 1) (sz + 1) vb = List.replicate (sz + 1) vb from by simp [fillL]] at h1
                                exact byt_of_blk h1 (by simp) (fun x hx => by have := List.eq_of_mem_replicate hx; omega) (by unfold maxLen; omega))
                              have HK5 : Hid (Blk wr bq 5 ((List.replicate (sz + 1) vb).map U8).toArray) := Lib.hid (by
                                have h1 := HQ.out
                                rw [show fillL (sz + 1) (sz + 1) vb = List.replicate (sz + 1) vb from by simp [fillL]] at h1
                                exact h1)
                              go_wp2_with fail
                              refine (Write_no s m d x (some ⟨bq, 0, none⟩) (sz + 1) (sz + 1) wr HP5.out.sto hHI.out HIb.out.symm).mono ?_
                              rintro e w6 ⟨rfl, hw6⟩
                              have H66 : Hid (Blk w6 bq 5 ((List.replicate (sz + 1) vb).map U8).toArray ∧ Blk w6 ac 31 #[.int .u8 (kd : Nat), .int .i64 x, .int .i64 vv, .bool true] ∧ PRel w s m lb sz N N0 a2 d pg k w6) := Lib.hid (by rw [← hw6]; exact ⟨HK5.out, HA6.out, HP5.out⟩)
                              have HK6 := Lib.hid H66.out.1
                              have HA6w := Lib.hid H66.out.2.1
                              have HP5 := Lib.hid H66.out.2.2
                              clear hw6 e1' e2'
                              go_wp2_with fail
                              go_loopw [30] (fun v30 wr => ∃ (q : Nat) (ls : List Nat), q ≤ (sz + 1) ∧ ls.length = (sz + 1) ∧ v30 = .int .i64 q ∧ Hid (Blk wr bq 5 (ls.map U8).toArray) ∧ Hid (Fr (· = bq) w6 wr)) (fun v30 _ => (sz + 1) - (intOf v30).toNat)
                              case atStart => exact ⟨0, _, Nat.zero_le _, by simp, rfl, HK6, Lib.hid (Fr.refl _ w6)⟩
                              case round =>
                                obtain ⟨q, ls, hq, hls, rfl, HQ7, HF7⟩ := hrel
                                by_cases hq2 : q < (sz + 1)
                                · obtain ⟨y, hy⟩ : ∃ y : Nat, ls[q]? = some y := ⟨_, List.getElem?_eq_getElem (by omega)⟩
                                  have d5 : wr.cell? ⟨bq, q, none⟩ = some (.int .u8 (y : Nat)) := by
                                    rw [HQ7.out.cell q, List.getElem?_toArray, List.getElem?_map, hy]; rfl
                                  have z5 := HQ7.out.frozen q
                                  obtain ⟨y2, hy2'⟩ : ∃ y2 : Nat, ((y : Int) + 1) % 256 = (y2 : Int) := ⟨(y + 1) % 256, by omega⟩
                                  have HN' : Hid (Blk (wr.setCell ⟨bq, q, none⟩ (.int .u8 (y2 : Nat))) bq 5 ((ls.set q y2).map U8).toArray) := Lib.hid (set_blk HQ7.out)
                                  have HFN : Hid (Fr (· = bq) w6 (wr.setCell ⟨bq, q, none⟩ (.int .u8 (y2 : Nat)))) := Lib.hid (HF7.out.set_ (p := ⟨bq, q, none⟩) rfl _)
                                  have HLS := Lib.hid hls
                                  clear hy hls
                                  go_wp2_with fail
                                  go_roundw
                                  case rel => exact ⟨q + 1, ls.set q y2, by omega, by rw [List.length_set]; exact HLS.out, by go_num, HN', HFN⟩
                                  case measure => simp [intOf]; omega
                                · obtain rfl : (sz + 1) = q := by omega
                                  clear hls
                                  have HA7 : Hid (Blk wr ac 31 #[.int .u8 (kd : Nat), .int .i64 x, .int .i64 vv, .bool true]) := Lib.hid (HA6w.out.fr HF7.out HQQ.out.1)
                                  have e1'' : wr.cell? ⟨ac, 1, none⟩ = some (.int .i64 x) := HA7.out.cell 1
                                  have e2'' : wr.cell? ⟨ac, 2, none⟩ = some (.int .i64 vv) := HA7.out.cell 2
                                  have e3'' : wr.cell? ⟨ac, 3, none⟩ = some (.bool true) := HA7.out.cell 3
                                  have HC : Hid (PRel w s m lb sz N N0 a2 d pg (k + 1) wr) := Lib.hid ((HP5.out.frame HF7.out (fun t ht => by rw [ht]; exact HQQ.out.2.1) HQQ.out.2.2.1 (fun t ht e => HQQ.out.2.2.2 t ht e)).next)
                                  go_wp2_with fail
                                  go_meet
                                  exact ⟨d, pg, rfl, rfl, rfl, by rw [HBd.out], HC⟩
                    | true =>
                      obtain ⟨j, rfl⟩ : ∃ j : Nat, x = (j : Int) := by
                        by_cases h1 : 0 ≤ x
                        · exact Int.eq_ofNat_of_zero_le h1
                        · have := HIb.out
                          rw [Sd.f, if_neg h1] at this
                          cases this
                      have HJ : Hid ((pg j).isSome = true) := Lib.hid ((HRa.out.f_ j).symm.trans HIb.out.symm)
                      have hjN : j < N0 := HRa.out.in0 (by omega) HJ.out
                      cases lo with
                      | true =>
                        as_aux_lemma =>
                          go_wp2_with (first
                            | (at_make
                               refine wpList_make_lc _ rfl (.tmp 114) (.tmp 114) 37 rfl 5 j0 _ Try.underlying37 hjj hy0 hy1 .i64 .i64 _ _ (sz + 1) (sz + 1) rfl rfl rfl rfl (Nat.le_refl _) (by rw [hy2]; omega) (by unfold maxLen; omega) ?_
                               intro w5 hg5 hbel5
                               have HG5 : Hid (Blk w5 wa.heap.size 5 ((fillL 0 (sz + 1) vb).map U8).toArray) := Lib.hid (by
                                 have := hg5.out
                                 rw [show fillL 0 (sz + 1) vb = zs (sz + 1) from by simp [fillL, zs], ← made_zs]
                                 exact this)
                               have HB5 := Lib.hid hbel5
                               clear hg5 hbel5))
                          obtain ⟨bq, hbq⟩ : ∃ bq, bq = wa.heap.size := ⟨_, rfl⟩
                          have HBQ := Lib.hid hbq
                          rw [← hbq] at HG5 ⊢
                          have HA5 : Hid (Blk w5 ac 31 #[.int .u8 (kd : Nat), .int .i64 j, .int .i64 vv, .bool true]) := Lib.hid (HAb.out.below HB5.out HAb.out.lt)
                          have HQQ : Hid (ac ≠ bq ∧ w.heap.size ≤ bq ∧ lb ≠ bq ∧ ∀ t, d.mine s m t → t ≠ bq) := Lib.hid ⟨by have := HAb.out.lt; omega, by rw [hbq]; exact HRa.out.bel.size, by have := HRa.out.row.lt; omega, fun t ht => by have := HRa.out.sto.mlt ht; omega⟩
                          clear hbq e0 e1 e2 e3
                          go_loopw [28] (fun v28 wr => ∃ q : Nat, q ≤ (sz + 1) ∧ v28 = .int .i64 q ∧ Hid (Blk wr bq 5 ((fillL q (sz + 1) vb).map U8).toArray) ∧ Hid (Fr (· = bq) w5 wr)) (fun v28 _ => (sz + 1) - (intOf v28).toNat)
                          case atStart => exact ⟨0, Nat.zero_le _, rfl, HG5, Lib.hid (Fr.refl _ w5)⟩
                          case round =>
                            obtain ⟨q, hq, rfl, HQ, HF⟩ := hrel
                            have HA6 : Hid (Blk wr ac 31 #[.int .u8 (kd : Nat), .int .i64 j, .int .i64 vv, .bool true]) := Lib.hid (HA5.out.fr HF.out HQQ.out.1)
                            have e1' : wr.cell? ⟨ac, 1, none⟩ = some (.int .i64 j) := HA6.out.cell 1
                            have e2' : wr.cell? ⟨ac, 2, none⟩ = some (.int .i64 vv) := HA6.out.cell 2
                            by_cases hq2 : q < (sz + 1)
                            · have e0l : (fillL q (sz + 1) vb).length = (sz + 1) := by simp [fillL]; omega
                              have d5 : ∃ v0, wr.cell? ⟨bq, q, none⟩ = some v0 := by
                                rw [HQ.out.cell q, List.getElem?_toArray]
                                exact ⟨_, List.getElem?_eq_getElem (by rw [List.length_map, e0l]; exact hq2)⟩
                              obtain ⟨v0, d5⟩ := d5
                              have z5 := HQ.out.frozen q
                              have HN' : Hid (Blk (wr.setCell ⟨bq, q, none⟩ (.int .u8 (vb : Nat))) bq 5 ((fillL (q + 1) (sz + 1) vb).map U8).toArray) := Lib.hid (fillL_blk HQ.out hq2)
                              have HFN : Hid (Fr (· = bq) w5 (wr.setCell ⟨bq, q, none⟩ (.int .u8 (vb : Nat)))) := Lib.hid (HF.out.set_ (p := ⟨bq, q, none⟩) rfl _)
                              clear e0l e1'
                              go_wp2_with fail
                              go_roundw
                              case rel => exact ⟨q + 1, by omega, by go_num, HN', HFN⟩
                              case measure => simp [intOf]; omega
                            · obtain rfl : (sz + 1) = q := by omega
                              have HP5 : Hid (PRel w s m lb sz N N0 a2 d pg k wr) := Lib.hid ((HRa.out.mv HB5.out).frame HF.out (fun t ht => by rw [ht]; exact HQQ.out.2.1) HQQ.out.2.2.1 (fun t ht e => HQQ.out.2.2.2 t ht e))
                              have HY : Hid (Byt wr (some ⟨bq, 0, none⟩) (sz + 1) (sz + 1) (List.replicate (sz + 1) vb)) := Lib.hid (by
                                have h1 := HQ.out
                                rw [show fillL (sz + 1) (sz + 1) vb = List.replicate (sz + 1) vb from by simp [fillL]] at h1
                                exact byt_of_blk h1 (by simp) (fun x hx => by have := List.eq_of_mem_replicate hx; omega) (by unfold maxLen; omega))
                              have HK5 : Hid (Blk wr bq 5 ((List.replicate (sz + 1) vb).map U8).toArray) := Lib.hid (by
                                have h1 := HQ.out
                                rw [show fillL (sz + 1) (sz + 1) vb = List.replicate (sz + 1) vb from by simp [fillL]] at h1
                                exact h1)
                              go_wp2_with fail
                              refine (Write_len s m d j (some ⟨bq, 0, none⟩) (sz + 1) (sz + 1) wr HP5.out.sto hHI.out HIb.out.symm (by rw [HP5.out.size]; omega)).mono ?_
                              rintro e w6 ⟨rfl, hw6⟩
                              have H66 : Hid (Blk w6 bq 5 ((List.replicate (sz + 1) vb).map U8).toArray ∧ Blk w6 ac 31 #[.int .u8 (kd : Nat), .int .i64 j, .int .i64 vv, .bool true] ∧ PRel w s m lb sz N N0 a2 d pg k w6) := Lib.hid (by rw [← hw6]; exact ⟨HK5.out, HA6.out, HP5.out⟩)
                              have HK6 := Lib.hid H66.out.1
                              have HA6w := Lib.hid H66.out.2.1
                              have HP5 := Lib.hid H66.out.2.2
                              clear hw6 e1' e2'
                              go_wp2_with fail
                              go_loopw [30] (fun v30 wr => ∃ (q : Nat) (ls : List Nat), q ≤ (sz + 1) ∧ ls.length = (sz + 1) ∧ v30 = .int .i64 q ∧ Hid (Blk wr bq 5 (ls.map U8).toArray) ∧ Hid (Fr (· = bq) w6 wr)) (fun v30 _ => (sz + 1) - (intOf v30).toNat)
                              case atStart => exact ⟨0, _, Nat.zero_le _, by simp, rfl, HK6, Lib.hid (Fr.refl _ w6)⟩
                              case round =>
                                obtain ⟨q, ls, hq, hls, rfl, HQ7, HF7⟩ := hrel
                                by_cases hq2 : q < (sz + 1)
                                · obtain ⟨y, hy⟩ : ∃ y : Nat, ls[q]? = some y := ⟨_, List.getElem?_eq_getElem (by omega)⟩
                                  have d5 : wr.cell? ⟨bq, q, none⟩ = some (.int .u8 (y : Nat)) := by
                                    rw [HQ7.out.cell q, List.getElem?_toArray, List.getElem?_map, hy]; rfl
                                  have z5 := HQ7.out.frozen q
                                  obtain ⟨y2, hy2'⟩ : ∃ y2 : Nat, ((y : Int) + 1) % 256 = (y2 : Int) := ⟨(y + 1) % 256, by omega⟩
                                  have HN' : Hid (Blk (wr.setCell ⟨bq, q, none⟩ (.int .u8 (y2 : Nat))) bq 5 ((ls.set q y2).map U8).toArray) := Lib.hid (set_blk HQ7.out)
                                  have HFN : Hid (Fr (· = bq) w6 (wr.setCell ⟨bq, q, none⟩ (.int .u8 (y2 : Nat)))) := Lib.hid (HF7.out.set_ (p := ⟨bq, q, none⟩) rfl _)
                                  have HLS := Lib.hid hls
                                  clear hy hls
                                  go_wp2_with fail
                                  go_roundw
                                  case rel => exact ⟨q + 1, ls.set q y2, by omega, by rw [List.length_set]; exact HLS.out, by go_num, HN', HFN⟩
                                  case measure => simp [intOf]; omega
                                · obtain rfl : (sz + 1) = q := by omega
                                  clear hls
                                  have HA7 : Hid (Blk wr ac 31 #[.int .u8 (kd : Nat), .int .i64 j, .int .i64 vv, .bool true]) := Lib.hid (HA6w.out.fr HF7.out HQQ.out.1)
                                  have e1'' : wr.cell? ⟨ac, 1, none⟩ = some (.int .i64 j) := HA7.out.cell 1
                                  have e2'' : wr.cell? ⟨ac, 2, none⟩ = some (.int .i64 vv) := HA7.out.cell 2
                                  have e3'' : wr.cell? ⟨ac, 3, none⟩ = some (.bool true) := HA7.out.cell 3
                                  have HC : Hid (PRel w s m lb sz N N0 a2 d pg (k + 1) wr) := Lib.hid ((HP5.out.frame HF7.out (fun t ht => by rw [ht]; exact HQQ.out.2.1) HQQ.out.2.2.1 (fun t ht e => HQQ.out.2.2.2 t ht e)).next)
                                  go_wp2_with fail
                                  go_meet
                                  exact ⟨d, pg, rfl, rfl, rfl, by rw [HBd.out], HC⟩
                      | false =>
                        cases fb with
                        | true =>
                          as_aux_lemma =>
                            go_wp2_with (first
                              | (at_make
                                 refine wpList_make_lc _ rfl (.tmp 114) (.tmp 114) 37 rfl 5 j0 _ Try.underlying37 hjj hy0 hy1 .i64 .i64 _ _ sz sz rfl rfl rfl rfl (Nat.le_refl _) (by rw [hy2]; omega) (by unfold maxLen; omega) ?_
                                 intro w5 hg5 hbel5
                                 have HG5 : Hid (Blk w5 wa.heap.size 5 ((fillL 0 sz vb).map U8).toArray) := Lib.hid (by
                                   have := hg5.out
                                   rw [show fillL 0 sz vb = zs sz from by simp [fillL, zs], ← made_zs]
                                   exact this)
                                 have HB5 := Lib.hid hbel5
                                 clear hg5 hbel5))
                            obtain ⟨bq, hbq⟩ : ∃ bq, bq = wa.heap.size := ⟨_, rfl⟩
                            have HBQ := Lib.hid hbq
                            rw [← hbq] at HG5 ⊢
                            have HA5 : Hid (Blk w5 ac 31 #[.int .u8 (kd : Nat), .int .i64 j, .int .i64 vv, .bool false]) := Lib.hid (HAb.out.below HB5.out HAb.out.lt)
                            have HQQ : Hid (ac ≠ bq ∧ w.heap.size ≤ bq ∧ lb ≠ bq ∧ ∀ t, d.mine s m t → t ≠ bq) := Lib.hid ⟨by have := HAb.out.lt; omega, by rw [hbq]; exact HRa.out.bel.size, by have := HRa.out.row.lt; omega, fun t ht => by have := HRa.out.sto.mlt ht; omega⟩
                            clear hbq e0 e1 e2 e3
                            go_loopw [28] (fun v28 wr => ∃ q : Nat, q ≤ sz ∧ v28 = .int .i64 q ∧ Hid (Blk wr bq 5 ((fillL q sz vb).map U8).toArray) ∧ Hid (Fr (· = bq) w5 wr)) (fun v28 _ => sz - (intOf v28).toNat)
                            case atStart => exact ⟨0, Nat.zero_le _, rfl, HG5, Lib.hid (Fr.refl _ w5)⟩
                            case round =>
                              obtain ⟨q, hq, rfl, HQ, HF⟩ := hrel
                              have HA6 : Hid (Blk wr ac 31 #[.int .u8 (kd : Nat), .int .i64 j, .int .i64 vv, .bool false]) := Lib.hid (HA5.out.fr HF.out HQQ.out.1)
                              have e1' : wr.cell? ⟨ac, 1, none⟩ = some (.int .i64 j) := HA6.out.cell 1
                              have e2' : wr.cell? ⟨ac, 2, none⟩ = some (.int .i64 vv) := HA6.out.cell 2
                              by_cases hq2 : q < sz
                              · have e0l : (fillL q sz vb).length = sz := by simp [fillL]; omega
                                have d5 : ∃ v0, wr.cell? ⟨bq, q, none⟩ = some v0 := by
                                  rw [HQ.out.cell q, List.getElem?_toArray]
                                  exact ⟨_, List.getElem?_eq_getElem (by rw [List.length_map, e0l]; exact hq2)⟩
                                obtain ⟨v0, d5⟩ := d5
                                have z5 := HQ.out.frozen q
                                have HN' : Hid (Blk (wr.setCell ⟨bq, q, none⟩ (.int .u8 (vb : Nat))) bq 5 ((fillL (q + 1) sz vb).map U8).toArray) := Lib.hid (fillL_blk HQ.out hq2)
                                have HFN : Hid (Fr (· = bq) w5 (wr.setCell ⟨bq, q, none⟩ (.int .u8 (vb : Nat)))) := Lib.hid (HF.out.set_ (p := ⟨bq, q, none⟩) rfl _)
                                clear e0l e1'
                                go_wp2_with fail
                                go_roundw
                                case rel => exact ⟨q + 1, by omega, by go_num, HN', HFN⟩
                                case measure => simp [intOf]; omega
                              · obtain rfl : sz = q := by omega
                                have HP5 : Hid (PRel w s m lb sz N N0 a2 d pg k wr) := Lib.hid ((HRa.out.mv HB5.out).frame HF.out (fun t ht => by rw [ht]; exact HQQ.out.2.1) HQQ.out.2.2.1 (fun t ht e => HQQ.out.2.2.2 t ht e))
                                have HY : Hid (Byt wr (some ⟨bq, 0, none⟩) sz sz (List.replicate sz vb)) := Lib.hid (by
                                  have h1 := HQ.out
                                  rw [show fillL sz sz vb = List.replicate sz vb from by simp [fillL]] at h1
                                  exact byt_of_blk h1 (by simp) (fun x hx => by have := List.eq_of_mem_replicate hx; omega) (by unfold maxLen; omega))
                                have HK5 : Hid (Blk wr bq 5 ((List.replicate sz vb).map U8).toArray) := Lib.hid (by
                                  have h1 := HQ.out
                                  rw [show fillL sz sz vb = List.replicate sz vb from by simp [fillL]] at h1
                                  exact h1)
                                go_wp2_with fail
                                have HW := Write_fault s m d j (some ⟨bq, 0, none⟩) sz wr HP5.out.sto hHI.out HIb.out.symm (by omega) HFb.out.symm
                                rw [HP5.out.size] at HW
                                have HW := Lib.hid HW
                                refine HW.out.mono ?_
                                rintro e w6 ⟨rfl, h6, f6⟩
                                have H6 := Lib.hid h6
                                have F6 := Lib.hid f6
                                have HK6 : Hid (Blk w6 bq 5 ((List.replicate sz vb).map U8).toArray) := Lib.hid (HK5.out.fr f6 (fun h => HQQ.out.2.2.2 s (.inl rfl) h.symm))
                                have HA6w : Hid (Blk w6 ac 31 #[.int .u8 (kd : Nat), .int .i64 j, .int .i64 vv, .bool false]) := Lib.hid (HA6.out.fr f6 (fun h => HA6.out.ne_ HP5.out.sto.blk (by decide) h))
                                clear h6 f6 e1' e2' HW
                                go_wp2_with fail
                                go_loopw [30] (fun v30 wr => ∃ (q : Nat) (ls : List Nat), q ≤ sz ∧ ls.length = sz ∧ v30 = .int .i64 q ∧ Hid (Blk wr bq 5 (ls.map U8).toArray) ∧ Hid (Fr (· = bq) w6 wr)) (fun v30 _ => sz - (intOf v30).toNat)
                                case atStart => exact ⟨0, _, Nat.zero_le _, by simp, rfl, HK6, Lib.hid (Fr.refl _ w6)⟩
                                case round =>
                                  obtain ⟨q, ls, hq, hls, rfl, HQ7, HF7⟩ := hrel
                                  by_cases hq2 : q < sz
                                  · obtain ⟨y, hy⟩ : ∃ y : Nat, ls[q]? = some y := ⟨_, List.getElem?_eq_getElem (by omega)⟩
                                    have d5 : wr.cell? ⟨bq, q, none⟩ = some (.int .u8 (y : Nat)) := by
                                      rw [HQ7.out.cell q, List.getElem?_toArray, List.getElem?_map, hy]; rfl
                                    have z5 := HQ7.out.frozen q
                                    obtain ⟨y2, hy2'⟩ : ∃ y2 : Nat, ((y : Int) + 1) % 256 = (y2 : Int) := ⟨(y + 1) % 256, by omega⟩
                                    have HN' : Hid (Blk (wr.setCell ⟨bq, q, none⟩ (.int .u8 (y2 : Nat))) bq 5 ((ls.set q y2).map U8).toArray) := Lib.hid (set_blk HQ7.out)
                                    have HFN : Hid (Fr (· = bq) w6 (wr.setCell ⟨bq, q, none⟩ (.int .u8 (y2 : Nat)))) := Lib.hid (HF7.out.set_ (p := ⟨bq, q, none⟩) rfl _)
                                    have HLS := Lib.hid hls
                                    clear hy hls
                                    go_wp2_with fail
                                    go_roundw
                                    case rel => exact ⟨q + 1, ls.set q y2, by omega, by rw [List.length_set]; exact HLS.out, by go_num, HN', HFN⟩
                                    case measure => simp [intOf]; omega
                                  · obtain rfl : sz = q := by omega
                                    clear hls
                                    have HA7 : Hid (Blk wr ac 31 #[.int .u8 (kd : Nat), .int .i64 j, .int .i64 vv, .bool false]) := Lib.hid (HA6w.out.fr HF7.out HQQ.out.1)
                                    have e1'' : wr.cell? ⟨ac, 1, none⟩ = some (.int .i64 j) := HA7.out.cell 1
                                    have e2'' : wr.cell? ⟨ac, 2, none⟩ = some (.int .i64 vv) := HA7.out.cell 2
                                    have e3'' : wr.cell? ⟨ac, 3, none⟩ = some (.bool false) := HA7.out.cell 3
                                    have HC : Hid (PRel w s m lb sz N N0 a2 d.op pg (k + 1) wr) := Lib.hid ((HP5.out.opd H6.out F6.out).frame HF7.out (fun t ht => by rw [ht]; exact HQQ.out.2.1) HQQ.out.2.2.1 (fun t ht e => HQQ.out.2.2.2 t ht e))
                                    have hbad : d.op.bad = true := by show (d.bad || d.fl) = true; rw [← HFb.out]; simp
                                    have HBD := Lib.hid hbad
                                    clear hbad
                                    cases bd
                                    all_goals
                                      go_wp2_with fail
                                      go_meet
                                      exact ⟨d.op, pg, rfl, rfl, by first | rfl | go_num, by rw [HBD.out], HC⟩
                        | false =>
                          as_aux_lemma =>
                            go_wp2_with (first
                              | (at_make
                                 refine wpList_make_lc _ rfl (.tmp 114) (.tmp 114) 37 rfl 5 j0 _ Try.underlying37 hjj hy0 hy1 .i64 .i64 _ _ sz sz rfl rfl rfl rfl (Nat.le_refl _) (by rw [hy2]; omega) (by unfold maxLen; omega) ?_
                                 intro w5 hg5 hbel5
                                 have HG5 : Hid (Blk w5 wa.heap.size 5 ((fillL 0 sz vb).map U8).toArray) := Lib.hid (by
                                   have := hg5.out
                                   rw [show fillL 0 sz vb = zs sz from by simp [fillL, zs], ← made_zs]
                                   exact this)
                                 have HB5 := Lib.hid hbel5
                                 clear hg5 hbel5))
                            obtain ⟨bq, hbq⟩ : ∃ bq, bq = wa.heap.size := ⟨_, rfl⟩
                            have HBQ := Lib.hid hbq
                            rw [← hbq] at HG5 ⊢
                            have HA5 : Hid (Blk w5 ac 31 #[.int .u8 (kd : Nat), .int .i64 j, .int .i64 vv, .bool false]) := Lib.hid (HAb.out.below HB5.out HAb.out.lt)
                            have HQQ : Hid (ac ≠ bq ∧ w.heap.size ≤ bq ∧ lb ≠ bq ∧ ∀ t, d.mine s m t → t ≠ bq) := Lib.hid ⟨by have := HAb.out.lt; omega, by rw [hbq]; exact HRa.out.bel.size, by have := HRa.out.row.lt; omega, fun t ht => by have := HRa.out.sto.mlt ht; omega⟩
                            clear hbq e0 e1 e2 e3
                            go_loopw [28] (fun v28 wr => ∃ q : Nat, q ≤ sz ∧ v28 = .int .i64 q ∧ Hid (Blk wr bq 5 ((fillL q sz vb).map U8).toArray) ∧ Hid (Fr (· = bq) w5 wr)) (fun v28 _ => sz - (intOf v28).toNat)
                            case atStart => exact ⟨0, Nat.zero_le _, rfl, HG5, Lib.hid (Fr.refl _ w5)⟩
                            case round =>
                              obtain ⟨q, hq, rfl, HQ, HF⟩ := hrel
                              have HA6 : Hid (Blk wr ac 31 #[.int .u8 (kd : Nat), .int .i64 j, .int .i64 vv, .bool false]) := Lib.hid (HA5.out.fr HF.out HQQ.out.1)
                              have e1' : wr.cell? ⟨ac, 1, none⟩ = some (.int .i64 j) := HA6.out.cell 1
                              have e2' : wr.cell? ⟨ac, 2, none⟩ = some (.int .i64 vv) := HA6.out.cell 2
                              by_cases hq2 : q < sz
                              · have e0l : (fillL q sz vb).length = sz := by simp [fillL]; omega
                                have d5 : ∃ v0, wr.cell? ⟨bq, q, none⟩ = some v0 := by
                                  rw [HQ.out.cell q, List.getElem?_toArray]
                                  exact ⟨_, List.getElem?_eq_getElem (by rw [List.length_map, e0l]; exact hq2)⟩
                                obtain ⟨v0, d5⟩ := d5
                                have z5 := HQ.out.frozen q
                                have HN' : Hid (Blk (wr.setCell ⟨bq, q, none⟩ (.int .u8 (vb : Nat))) bq 5 ((fillL (q + 1) sz vb).map U8).toArray) := Lib.hid (fillL_blk HQ.out hq2)
                                have HFN : Hid (Fr (· = bq) w5 (wr.setCell ⟨bq, q, none⟩ (.int .u8 (vb : Nat)))) := Lib.hid (HF.out.set_ (p := ⟨bq, q, none⟩) rfl _)
                                clear e0l e1'
                                go_wp2_with fail
                                go_roundw
                                case rel => exact ⟨q + 1, by omega, by go_num, HN', HFN⟩
                                case measure => simp [intOf]; omega
                              · obtain rfl : sz = q := by omega
                                have HP5 : Hid (PRel w s m lb sz N N0 a2 d pg k wr) := Lib.hid ((HRa.out.mv HB5.out).frame HF.out (fun t ht => by rw [ht]; exact HQQ.out.2.1) HQQ.out.2.2.1 (fun t ht e => HQQ.out.2.2.2 t ht e))
                                have HY : Hid (Byt wr (some ⟨bq, 0, none⟩) sz sz (List.replicate sz vb)) := Lib.hid (by
                                  have h1 := HQ.out
                                  rw [show fillL sz sz vb = List.replicate sz vb from by simp [fillL]] at h1
                                  exact byt_of_blk h1 (by simp) (fun x hx => by have := List.eq_of_mem_replicate hx; omega) (by unfold maxLen; omega))
                                have HK5 : Hid (Blk wr bq 5 ((List.replicate sz vb).map U8).toArray) := Lib.hid (by
                                  have h1 := HQ.out
                                  rw [show fillL sz sz vb = List.replicate sz vb from by simp [fillL]] at h1
                                  exact h1)
                                go_wp2_with fail
                                refine (Write_ok2 s m d j (some ⟨bq, 0, none⟩) sz sz (List.replicate sz vb) wr HP5.out.sto HP5.out.size (by rw [HP5.out.some_]; exact HJ.out) HY.out (by omega) HFb.out.symm).mono ?_
                                rintro e w6 ⟨rfl, h6, f6⟩
                                have H6 := Lib.hid h6
                                have F6 := Lib.hid f6
                                have HJB : Hid ((d.B j).isSome = true) := Lib.hid (by rw [HP5.out.some_]; exact HJ.out)
                                have HK6 : Hid (Blk w6 bq 5 ((List.replicate sz vb).map U8).toArray) := Lib.hid (HK5.out.fr f6 (fun h => by rcases h with h | h; exact HQQ.out.2.2.2 s (.inl rfl) h.symm; exact HQQ.out.2.2.2 _ (.inr (.inr ⟨j, HJB.out, rfl⟩)) h.symm))
                                have HA6w : Hid (Blk w6 ac 31 #[.int .u8 (kd : Nat), .int .i64 j, .int .i64 vv, .bool false]) := Lib.hid (HA6.out.fr f6 (fun h => by
                                      rcases h with h | h
                                      · exact HA6.out.ne_ HP5.out.sto.blk (by decide) h
                                      · obtain ⟨l, hl⟩ := Option.isSome_iff_exists.1 HJB.out
                                        exact HA6.out.ne_ (HP5.out.sto.cont j l hl).2.2 (by decide) h))
                                clear h6 f6 e1' e2'
                                go_wp2_with fail
                                go_loopw [30] (fun v30 wr => ∃ (q : Nat) (ls : List Nat), q ≤ sz ∧ ls.length = sz ∧ v30 = .int .i64 q ∧ Hid (Blk wr bq 5 (ls.map U8).toArray) ∧ Hid (Fr (· = bq) w6 wr)) (fun v30 _ => sz - (intOf v30).toNat)
                                case atStart => exact ⟨0, _, Nat.zero_le _, by simp, rfl, HK6, Lib.hid (Fr.refl _ w6)⟩
                                case round =>
                                  obtain ⟨q, ls, hq, hls, rfl, HQ7, HF7⟩ := hrel
                                  by_cases hq2 : q < sz
                                  · obtain ⟨y, hy⟩ : ∃ y : Nat, ls[q]? = some y := ⟨_, List.getElem?_eq_getElem (by omega)⟩
                                    have d5 : wr.cell? ⟨bq, q, none⟩ = some (.int .u8 (y : Nat)) := by
                                      rw [HQ7.out.cell q, List.getElem?_toArray, List.getElem?_map, hy]; rfl
                                    have z5 := HQ7.out.frozen q
                                    obtain ⟨y2, hy2'⟩ : ∃ y2 : Nat, ((y : Int) + 1) % 256 = (y2 : Int) := ⟨(y + 1) % 256, by omega⟩
                                    have HN' : Hid (Blk (wr.setCell ⟨bq, q, none⟩ (.int .u8 (y2 : Nat))) bq 5 ((ls.set q y2).map U8).toArray) := Lib.hid (set_blk HQ7.out)
                                    have HFN : Hid (Fr (· = bq) w6 (wr.setCell ⟨bq, q, none⟩ (.int .u8 (y2 : Nat)))) := Lib.hid (HF7.out.set_ (p := ⟨bq, q, none⟩) rfl _)
                                    have HLS := Lib.hid hls
                                    clear hy hls
                                    go_wp2_with fail
                                    go_roundw
                                    case rel => exact ⟨q + 1, ls.set q y2, by omega, by rw [List.length_set]; exact HLS.out, by go_num, HN', HFN⟩
                                    case measure => simp [intOf]; omega
                                  · obtain rfl : sz = q := by omega
                                    clear hls
                                    have HA7 : Hid (Blk wr ac 31 #[.int .u8 (kd : Nat), .int .i64 j, .int .i64 vv, .bool false]) := Lib.hid (HA6w.out.fr HF7.out HQQ.out.1)
                                    have e1'' : wr.cell? ⟨ac, 1, none⟩ = some (.int .i64 j) := HA7.out.cell 1
                                    have e2'' : wr.cell? ⟨ac, 2, none⟩ = some (.int .i64 vv) := HA7.out.cell 2
                                    have e3'' : wr.cell? ⟨ac, 3, none⟩ = some (.bool false) := HA7.out.cell 3
                                    have HS7 : Hid (Sto wr s m (d.op.wr j (List.replicate sz vb)) ∧ Fr (fun t => t = s ∨ t = d.g j ∨ t = bq) _ wr) := Lib.hid ⟨H6.out.fr HF7.out (fun t ht e => HQQ.out.2.2.2 t (mine_wr HJB.out ht) e), (F6.out.more (fun t ht => by rcases ht with h | h; exact .inl h; exact .inr (.inl h))).trans (HF7.out.more (fun t ht => .inr (.inr ht)))⟩
                                    have HWr : Hid (∀ w3, w3 = wr.setCell ⟨lb, j * 2 + 1, none⟩ (.int .u8 (vb : Nat)) → PRel w s m lb sz N N0 a2 (d.op.wr j (List.replicate sz vb)) (up pg j (some vb)) (k + 1) w3) := Lib.hid (fun w3 hw => HP5.out.wri HJ.out hvb2 HS7.out.1 HS7.out.2 (fun t ht => by
                                      rcases ht with rfl | rfl | rfl
                                      · exact HP5.out.hs
                                      · exact HP5.out.mine j HJB.out
                                      · exact HQQ.out.2.1) (fun h => by
                                      rcases h with h | h | h
                                      · exact HP5.out.ls h
                                      · exact HP5.out.lg HJB.out h
                                      · exact HQQ.out.2.2.1 h) w3 hw)
                                    have HB7 : Hid (Blk wr lb 33 (pgC N0 pg)) := Lib.hid (HP5.out.row.fr HS7.out.2 (fun h => by
                                      rcases h with h | h | h
                                      · exact HP5.out.ls h
                                      · exact HP5.out.lg HJB.out h
                                      · exact HQQ.out.2.2.1 h))
                                    have hbad : (d.op.wr j (List.replicate sz vb)).bad = d.bad := by show (d.bad || d.fl) = d.bad; rw [← HFb.out]; simp
                                    have HBD := Lib.hid hbad
                                    have z1 := HB7.out.frozen (j * 2 + 1)
                                    have g1 : ∃ v0, wr.cell? ⟨lb, j * 2 + 1, none⟩ = some v0 := ⟨_, by rw [HB7.out.cell, pgC_o hjN]⟩
                                    obtain ⟨v1, g1⟩ := g1
                                    clear hbad
                                    cases bd
                                    all_goals
                                      go_wp2_with fail
                                      go_meet
                                      exact ⟨d.op.wr j (List.replicate sz vb), up pg j (some vb), rfl, rfl, by first | rfl | go_num, by rw [HBD.out, ← HBd.out], Lib.hid (HWr.out _ rfl)⟩
                case rest =>
                  as_aux_lemma =>
                    obtain ⟨d2, pg2, rfl, rfl, rfl, rfl, HC⟩ := hcut
                    have hneB : ∀ z : Bool, (z != z) = false := by simp
                    have hneZ : ∀ z : Int, (z != z) = false := by simp
                    have HU := Lib.hid (Used_any HC.out.sto)
                    have HP := Lib.hid (Peak_any HC.out.sto)
                    have HO := Lib.hid (Ops_any HC.out.sto)
                    have HO := Lib.hid (Ops_any HC.out.sto)
                    have HFa := Lib.hid (Failed_any HC.out.sto)
                    go_wp2_with (first
                      | (go_at_call 19; refine HU.out.mono ?_; rintro e w' ⟨rfl, rfl⟩)
                      | (go_at_call 20; refine HP.out.mono ?_; rintro e w' ⟨rfl, rfl⟩)
                      | (go_at_call 21; refine HO.out.mono ?_; rintro e w' ⟨rfl, rfl⟩)
                      | (go_at_call 22; refine HFa.out.mono ?_; rintro e w' ⟨rfl, rfl⟩))
                    go_roundw
                    case rel => first | exact ⟨k + 1, d2, pg2, _, by omega, by go_num, rfl, rfl, rfl, rfl, Lib.hid rfl, HC⟩ | ((repeat apply Exists.intro); exact ⟨⟨k + 1, d2, pg2, _, by omega, by go_num, rfl, rfl, rfl, rfl, Lib.hid rfl, HC⟩, rfl⟩)
                    case measure => simp [intOf]; omega
          · have HS := Lib.hid (Size_any HR.out.sto)
            have HCp := Lib.hid (Capacity_any HR.out.sto)
            have h1 : d.size = sz := HR.out.size
            have h2 : d.cap = N := HR.out.cap
            rw [h1] at HS
            rw [h2] at HCp
            clear h1 h2
            go_wp2_with (first
              | (go_at_call 23; refine HS.out.mono ?_; rintro e w' ⟨rfl, rfl⟩)
              | (go_at_call 24; refine HCp.out.mono ?_; rintro e w' ⟨rfl, rfl⟩))
            go_ret
            exact ⟨rfl, HR.out.bel⟩
end Go.Proofs.Ytmphpdonpaefpaa
