/-
  PagerMems: the walk.
-/
import Derived.Test.YtlnffcledpccjaaHd
import Derived.BigQuiet
import Derived.WalkKit
import Derived.ProofKit
import Derived.OpenShut
import Derived.ShutString
import Derived.ChangeOld
import Derived.Below
namespace Go.Proofs.Ytlnffcledpccjaa
open Go.ChangeShapes Go.WideShapes Go.ChangeAt Go.RowKit
set_option linter.unusedVariables false
set_option linter.unusedSimpArgs false
open Go.RowKit
theorem rdl_mem {C C' : Nat × Nat → List Nat} (sz : Nat) (b p n : Int) (h : ∀ y, C (0, y) = C' (0, y)) : rdl sz C 0 b p n = rdl sz C' 0 b p n := by
  unfold rdl
  rw [show ((0 : Int).toNat) = 0 from rfl, h]
theorem wrC_mem {C C' : Nat × Nat → List Nat} (sz : Nat) (b p : Int) (l : List Nat) (h : ∀ y, C (0, y) = C' (0, y)) (y : Nat) : wrC sz C 0 b p l (0, y) = wrC sz C' 0 b p l (0, y) := by
  unfold wrC
  split
  · rw [show ((0 : Int).toNat) = 0 from rfl]
    by_cases e : (0, y) = (0, b.toNat)
    · rw [e, upd_same, upd_same, h]
    · rw [upd_other _ _ _ e, upd_other _ _ _ e, h]
  · exact h y
theorem wrC_one {C C' : Nat × Nat → List Nat} (sz : Nat) (b p : Int) (l : List Nat) (h : ∀ y, C (0, y) = C' (0, y)) (y : Nat) : wrC sz C 1 b p l (0, y) = C' (0, y) := by
  unfold wrC
  split
  · rw [show ((1 : Int).toNat) = 1 from rfl, upd_other _ _ _ (fun e => by injection e with e _; cases e), h]
  · exact h y
theorem drC_mem {C C' : Nat × Nat → List Nat} (sz : Nat) (h : ∀ y, C (0, y) = C' (0, y)) (y : Nat) : drC sz C 0 (0, y) = drC sz C' 0 (0, y) := by
  unfold drC drp
  simp
theorem drC_one {C C' : Nat × Nat → List Nat} (sz : Nat) (h : ∀ y, C (0, y) = C' (0, y)) (y : Nat) : drC sz C 1 (0, y) = C' (0, y) := by
  unfold drC drp
  simp [h]
set_option maxHeartbeats 4000000 in
set_option maxRecDepth 100000 in
theorem pagerMems_walk (a0 : Int) (a1 : Option Addr) (len1 cap1 : Nat) (F : Nat → Pact) (w : World) (h0 : (Lit.int .u8 a0).wf = true) (hF : PRow w a1 len1 cap1 F) :
    Calls Try.prog 5 #[.int .u8 a0, .slice a1 len1 cap1] w fun e w' => e = .returned (.bool true) ∧ Below w.heap.size w w' := by
  have ha := bounds_u8 h0
  have hlc1 : len1 ≤ cap1 := hF.1
  have hcap1 : cap1 ≤ 9223372036854775807 := by have := hF.2.1; unfold maxLen at this; omega
  have HF := Lib.hid hF.2.2
  clear hF h0
  by_cases hbig : 50 < len1
  · go_enter Try.func5, Try.ntmps5
    go_wp2_with (go_at_call 11; refine (awake7_any _).mono ?_; rintro e w1 ⟨rfl, hb1⟩; have HB1 := Lib.hid hb1; clear hb1)
    go_ret
    exact ⟨rfl, HB1.out⟩
  · have hl1 : len1 ≤ 50 := by omega
    obtain ⟨n, hn⟩ : ∃ n : Nat, (n : Int) = 1 + a0 % 6 := ⟨(1 + a0 % 6).toNat, by omega⟩
    have hn1 : 1 ≤ n := by omega
    have hn8 : n ≤ 6 := by omega
    clear hbig
    go_enter Try.func5, Try.ntmps5
    go_wp2_with fail
    refine (awake7_any _).mono ?_
    rintro e w1 ⟨rfl, hb1⟩
    have HW1 := Lib.hid hb1
    clear hb1
    go_wp2_with fail
    refine (ANew_ok 8192 _ (by omega)).mono ?_
    rintro e w2 ⟨a, bb, rm, gm, rfl, h2, b2, ha2, hbb, hr, hg⟩
    have H2 := Lib.hid h2
    have B2 := Lib.hid (HW1.out.trans (b2.mono HW1.out.size))
    have HA := Lib.hid (show w.heap.size ≤ a ∧ w.heap.size ≤ bb ∧ w.heap.size ≤ rm ∧ w.heap.size ≤ gm from by have := HW1.out.size; omega)
    clear h2 b2 ha2 hbb hr hg
    go_wp2_with fail
    refine (SNew_ok 16 200 w2 (by omega) (by omega) (by omega)).mono ?_
    unfold NuPost
    rintro e w3 ⟨s, m, rfl, h3, b3, hs, hm⟩
    have H3 := Lib.hid h3
    have B3 := Lib.hid b3
    have HS := Lib.hid (And.intro hs hm)
    clear h3 b3 hs hm
    go_wp2_with fail
    refine (SNew_ok 16 200 w3 (by omega) (by omega) (by omega)).mono ?_
    unfold NuPost
    rintro e w4 ⟨s', m', rfl, h4, b4, hs', hm'⟩
    have HN := Lib.hid (S2.new (k1 := n) (k2 := n) H2.out B2.out HA.out (H3.out.below b4 (Nat.le_refl _)) h4 (B3.out.trans (b4.mono B3.out.size)) HS.out.1 HS.out.2 (by have := B3.out.size; omega) (by have := B3.out.size; omega) (by have h1 := H3.out.lt; have h2 := H3.out.mlt (k := m) (.inr (.inl rfl)); omega) (by decide) hn1 (by omega) hn1 (by omega) (by omega))
    clear h4 b4 hs' hm'
    go_wp2_with fail
    have hN1 := HN.out
    rw [hn] at hN1
    refine hN1.mono ?_
    clear hN1
    rintro e w5 ⟨A1, rfl, hb5, h5⟩
    have H5 := Lib.hid h5
    clear h5 hb5
    go_wp2_with (go_at_call 14; refine H5.out.mono ?_; rintro e w6 ⟨A2, rfl, hS⟩; have HS0 : Hid (S2 w A1 A2 bb rm gm n n 16 200 (fun _ => zs 16) (fun _ => zs 16) 0 0 (8200 * 0) (fun _ => False) w6) := Lib.hid hS; clear hS)
    clear hn ha
    go_loopw [15] (fun i wr => ∃ (k : Nat) (C1 C2 : Nat × Nat → List Nat), k ≤ len1 ∧ i = .int .i64 k ∧ Hid (S2 w A1 A2 bb rm gm n n 16 200 C1 C2 k k (8200 * k) (fun _ => False) wr) ∧ Hid (∀ y, C1 (0, y) = C2 (0, y))) (fun i _ => len1 - (intOf i).toNat)
    case atStart => exact ⟨0, _, _, Nat.zero_le _, rfl, HS0, Lib.hid (fun _ => rfl)⟩
    case round =>
      obtain ⟨k, C1, C2, hk, rfl, HS, HE⟩ := hrel
      by_cases hlt : k < len1
      · obtain ⟨b, off, rfl, hbl, hact⟩ := HF.out (by omega)
        have hx := hact k hlt
        clear hact
        generalize F k = x at hx
        obtain ⟨kd, mem, page, at_, nn, B, ln, cp, l⟩ := x
        have c0 : wr.cell? ⟨b, off + k * 6, none⟩ = some (.int .u8 (kd : Int)) := (HS.out.bel.cell (p := ⟨b, off + k * 6, none⟩) hbl).trans hx.c0
        have c1 : wr.cell? ⟨b, off + k * 6 + 1, none⟩ = some (.int .i64 mem) := (HS.out.bel.cell (p := ⟨b, off + k * 6 + 1, none⟩) hbl).trans hx.c1
        have c2 : wr.cell? ⟨b, off + k * 6 + 2, none⟩ = some (.int .i64 page) := (HS.out.bel.cell (p := ⟨b, off + k * 6 + 2, none⟩) hbl).trans hx.c2
        have c3 : wr.cell? ⟨b, off + k * 6 + 3, none⟩ = some (.int .i64 at_) := (HS.out.bel.cell (p := ⟨b, off + k * 6 + 3, none⟩) hbl).trans hx.c3
        have c4 : wr.cell? ⟨b, off + k * 6 + 4, none⟩ = some (.int .i64 nn) := (HS.out.bel.cell (p := ⟨b, off + k * 6 + 4, none⟩) hbl).trans hx.c4
        have c5 : wr.cell? ⟨b, off + k * 6 + 5, none⟩ = some (.slice B ln cp) := (HS.out.bel.cell (p := ⟨b, off + k * 6 + 5, none⟩) hbl).trans hx.c5
        have hkd : kd < 256 := hx.kd
        have hlc : ln ≤ cp := hx.byt.2.2.1
        have hcp : cp ≤ 9223372036854775807 := by have := hx.byt.2.2.2.1; unfold maxLen at this; omega
        have HX := Lib.hid hx
        clear hx
        by_cases h30 : 30 < ln
        · go_wp2
          go_ret
          exact ⟨rfl, HS.out.bel.alloc HS.out.bel.size _⟩
        · obtain ⟨o1, ho1⟩ : ∃ o1, o1 = Obj.cells #[.int .u8 (kd : Int), .int .i64 mem, .int .i64 page, .int .i64 at_, .int .i64 nn, .slice B ln cp] 36 := ⟨_, rfl⟩
          have hSa : S2 w A1 A2 bb rm gm n n 16 200 C1 C2 k k (8200 * k) (fun q => q = wr.heap.size) (wr.alloc o1) := HS.out.ext (S := fun _ => False) ((Fr.refl _ wr).alloc o1) (fun _ q => q.elim) (fun q hq => .inr (by rw [hq, World.size_alloc]; omega))
          have HSA := Lib.hid hSa
          have hl4 : ln ≤ 30 := by omega
          clear HS hSa h30
          have hpg : mem ≤ 9223372036854775807 ∧ page ≤ 9223372036854775807 ∧ at_ ≤ 9223372036854775807 := ⟨HX.out.mem.2, HX.out.page.2, HX.out.at_.2⟩
          have x1 : (wr.alloc o1).cell? ⟨wr.heap.size, 1, none⟩ = some (.int .i64 mem) := by rw [ho1, (Blk.new wr 36 _).cell 1]; rfl
          have x2 : (wr.alloc o1).cell? ⟨wr.heap.size, 2, none⟩ = some (.int .i64 page) := by rw [ho1, (Blk.new wr 36 _).cell 2]; rfl
          have x3 : (wr.alloc o1).cell? ⟨wr.heap.size, 3, none⟩ = some (.int .i64 at_) := by rw [ho1, (Blk.new wr 36 _).cell 3]; rfl
          have x4 : (wr.alloc o1).cell? ⟨wr.heap.size, 4, none⟩ = some (.int .i64 nn) := by rw [ho1, (Blk.new wr 36 _).cell 4]; rfl
          have x5 : (wr.alloc o1).cell? ⟨wr.heap.size, 5, none⟩ = some (.slice B ln cp) := by rw [ho1, (Blk.new wr 36 _).cell 5]; rfl
          have hltX : wr.heap.size < (wr.alloc o1).heap.size := by rw [World.size_alloc]; omega
          have HYB : Hid (Byt (wr.alloc o1) B ln cp l) := Lib.hid (HX.out.byt.kept HSA.out.bel)
          have HGB : Hid (∀ g, B.map (·.block) = some g → 0 < ln → g = wr.heap.size ∨ g < w.heap.size) := Lib.hid (fun g e h => .inr (HX.out.lt g e h))
          have hr3 : (kd : Int) % 3 = 0 ∨ (kd : Int) % 3 = 1 ∨ (kd : Int) % 3 = 2 := by omega
          have z9 : (0 : Int) ≤ 9223372036854775807 := by decide
          have o9 : (1 : Int) ≤ 9223372036854775807 := by decide
          by_cases hown : mem.tmod 2 = 0
          · have ho : (mem.tmod 2 == 0) = true := by simp [hown]
            clear hown
            rcases hr3 with hr | hr | hr
            · have e0 : ((kd : Int) % 3 == 0) = true := by simp; omega
              have e1 : ((kd : Int) % 3 == 1) = false := by simp; omega
              subst ho1
              go_wp2_with fail
              refine (HSA.out.read 0 page at_ nn z9 hpg.2.1 hpg.2.2 (by omega) (by omega)).mono ?_
              rintro e w7 ⟨B1, m1, cp1, rfl, hy1, hS1, hK1⟩
              have y1 := (hK1.cell (i := 1) rfl hltX).trans x1
              have y2 := (hK1.cell (i := 2) rfl hltX).trans x2
              have y3 := (hK1.cell (i := 3) rfl hltX).trans x3
              have y4 := (hK1.cell (i := 4) rfl hltX).trans x4
              have HS1 := Lib.hid hS1
              have HY1 := Lib.hid hy1
              clear hy1 hS1 hK1 x1 x2 x3 x4 x5 hltX
              go_wp2_with fail
              refine (HS1.out.swap.read 0 page at_ nn z9 hpg.2.1 hpg.2.2 (by omega) (by omega)).mono ?_
              rintro e w8 ⟨B2, m2, cp2, rfl, hy2, hS2, hK2⟩
              have hc1 := conv_byt (hK2.bytX HY1.out (fun g e h => .inl (.inr ⟨h, e⟩)))
              have hc2 := conv_byt hy2
              have HS8 := Lib.hid hS2
              clear hy2 hS2 hK2
              rw [rdl_mem (C' := C2) 16 page at_ nn HE.out] at hc1
              generalize rerr 16 0 page at_ nn = r
              generalize rdl 16 C2 0 page at_ nn = lt at hc1 hc2
              have hne : (r != r) = false := by simp
              have hse : ((str lt).toList == (str lt).toList) = true := by simp
              go_wp2
              go_roundw
              case rel => exact ⟨k + 1, _, _, by omega, by go_num, Lib.hid ((HS8.out.swap.more (ka' := k + 1) (kb' := k + 1) (o' := 8200 * (k + 1)) (by omega) (by omega) (by omega)).less (fun _ q => False.elim q)), HE⟩
              case measure => simp [intOf]; omega
            · have e0 : ((kd : Int) % 3 == 0) = false := by simp; omega
              have e1 : ((kd : Int) % 3 == 1) = true := by simp; omega
              have HWp := Lib.hid (HSA.out.write 0 page at_ B ln cp l HYB.out HGB.out z9 hpg.2.1 hpg.2.2 (by omega) (by omega))
              unfold WrU at HWp
              have hne : (rerr 16 0 page at_ ln != rerr 16 0 page at_ ln) = false := by simp
              subst ho1
              go_wp2_with (go_at_call 16
                           with_reducible first | refine HWp.out.mono ?_; clear HWp; rintro e w7 ⟨rfl, h7, k7⟩; have HS7 := Lib.hid h7; have y1 := (k7.cell (i := 1) rfl hltX).trans x1; have y2 := (k7.cell (i := 2) rfl hltX).trans x2; have y3 := (k7.cell (i := 3) rfl hltX).trans x3; have y5 := (k7.cell (i := 5) rfl hltX).trans x5; have HWq := Lib.hid (HS7.out.swap.write 0 page at_ B ln cp l (k7.bytX HYB.out HGB.out) HGB.out z9 hpg.2.1 hpg.2.2 (by omega) (by omega)); unfold WrU at HWq; clear h7 k7 | refine HWq.out.mono ?_; clear HWq; rintro e w8 ⟨rfl, h8, k8⟩; have HS8 := Lib.hid h8; clear h8 k8)
              go_roundw
              case rel => exact ⟨k + 1, _, _, by omega, by go_num, Lib.hid ((HS8.out.swap.more (ka' := k + 1) (kb' := k + 1) (o' := 8200 * (k + 1)) (by omega) (by omega) (by omega)).less (fun _ q => False.elim q)), Lib.hid (wrC_mem 16 page at_ l HE.out)⟩
              case measure => simp [intOf]; omega
            · have e0 : ((kd : Int) % 3 == 0) = false := by simp; omega
              have e1 : ((kd : Int) % 3 == 1) = false := by simp; omega
              have HWp := Lib.hid (HSA.out.drop 0 z9 (by omega))
              rw [if_neg (by decide : ¬ (0 : Int) < 0)] at HWp
              unfold WrU at HWp
              subst ho1
              go_wp2_with (go_at_call 17
                           with_reducible first | refine HWp.out.mono ?_; clear HWp; rintro e w7 ⟨rfl, h7, k7⟩; have HS7 := Lib.hid h7; have hwq := HS7.out.swap.drop 0 z9 (by omega); rw [if_neg (by decide : ¬ (0 : Int) < 0)] at hwq; unfold WrU at hwq; have HWq := Lib.hid hwq; clear h7 k7 hwq | refine HWq.out.mono ?_; clear HWq; rintro e w8 ⟨rfl, h8, k8⟩; have HS8 := Lib.hid h8; clear h8 k8)
              go_roundw
              case rel => exact ⟨k + 1, _, _, by omega, by go_num, Lib.hid ((HS8.out.swap.more (ka' := k + 1) (kb' := k + 1) (o' := 8200 * (k + 1)) (by omega) (by omega) (by omega)).less (fun _ q => False.elim q)), Lib.hid (drC_mem 16 HE.out)⟩
              case measure => simp [intOf]; omega
          · have ho : (mem.tmod 2 == 0) = false := by simp [hown]
            clear hown
            rcases hr3 with hr | hr | hr
            · have e0 : ((kd : Int) % 3 == 0) = true := by simp; omega
              have e1 : ((kd : Int) % 3 == 1) = false := by simp; omega
              have HRd := Lib.hid (HSA.out.read 1 page at_ nn o9 hpg.2.1 hpg.2.2 (by omega) (by omega))
              unfold RdU at HRd
              subst ho1
              go_wp2_with (go_at_call 15
                           with_reducible refine HRd.out.mono ?_
                           rintro e w7 ⟨B1, m1, cp1, rfl, hy1, hS1, hK1⟩
                           have HS1 := Lib.hid hS1
                           clear hy1 hS1 hK1)
              go_roundw
              case rel => exact ⟨k + 1, _, _, by omega, by go_num, Lib.hid ((HS1.out.more (ka' := k + 1) (kb' := k + 1) (o' := 8200 * (k + 1)) (by omega) (by omega) (by omega)).less (fun _ q => False.elim q)), HE⟩
              case measure => simp [intOf]; omega
            · have e0 : ((kd : Int) % 3 == 0) = false := by simp; omega
              have e1 : ((kd : Int) % 3 == 1) = true := by simp; omega
              have HWp := Lib.hid (HSA.out.write 1 page at_ B ln cp l HYB.out HGB.out o9 hpg.2.1 hpg.2.2 (by omega) (by omega))
              unfold WrU at HWp
              subst ho1
              go_wp2_with (go_at_call 16
                           with_reducible refine HWp.out.mono ?_
                           rintro e w7 ⟨rfl, h7, k7⟩
                           have HS7 := Lib.hid h7
                           clear h7 k7)
              go_roundw
              case rel => exact ⟨k + 1, _, _, by omega, by go_num, Lib.hid ((HS7.out.more (ka' := k + 1) (kb' := k + 1) (o' := 8200 * (k + 1)) (by omega) (by omega) (by omega)).less (fun _ q => False.elim q)), Lib.hid (wrC_one 16 page at_ l HE.out)⟩
              case measure => simp [intOf]; omega
            · have e0 : ((kd : Int) % 3 == 0) = false := by simp; omega
              have e1 : ((kd : Int) % 3 == 1) = false := by simp; omega
              have HWp := Lib.hid (HSA.out.drop 1 o9 (by omega))
              rw [if_neg (by decide : ¬ (1 : Int) < 0)] at HWp
              unfold WrU at HWp
              subst ho1
              go_wp2_with (go_at_call 17
                           with_reducible refine HWp.out.mono ?_
                           rintro e w7 ⟨rfl, h7, k7⟩
                           have HS7 := Lib.hid h7
                           clear h7 k7)
              go_roundw
              case rel => exact ⟨k + 1, _, _, by omega, by go_num, Lib.hid ((HS7.out.more (ka' := k + 1) (kb' := k + 1) (o' := 8200 * (k + 1)) (by omega) (by omega) (by omega)).less (fun _ q => False.elim q)), Lib.hid (drC_one 16 HE.out)⟩
              case measure => simp [intOf]; omega
      · obtain rfl : len1 = k := by omega
        have HFa := Lib.hid HS.out.fault
        have HFb := Lib.hid HS.out.swap.fault
        go_wp2_with (go_at_call 19; (first | with_reducible refine HFa.out.mono ?_ | with_reducible refine HFb.out.mono ?_); rintro e w7 ⟨rfl, rfl⟩)
        go_ret
        exact ⟨rfl, HS.out.bel⟩
end Go.Proofs.Ytlnffcledpccjaa
