/-
  PagerFrames: the walk.
-/
import Derived.Test.YtlnffcledpccjaaHc
import Derived.BigQuiet
import Derived.WalkKit
import Derived.ProofKit
import Derived.OpenShut
import Derived.ShutString
import Derived.ChangeOld
import Derived.Below
namespace Go.Proofs.Ytlnffcledpccjaa
open Go.ChangeShapes Go.WideShapes Go.ChangeAt Go.RowKit
set_option linter.unusedVariables false
set_option linter.unusedSimpArgs false
open Go.RowKit
theorem S2.drew {w0 w : World} {A1 A2 : Pa} {bb rm gm n1 n2 sz cap ka kb o : Nat} {C1 C2 : Nat × Nat → List Nat} {X : Nat → Prop} (h : S2 w0 A1 A2 bb rm gm n1 n2 sz cap C1 C2 ka kb o X w) : S2 w0 A1 A2 bb rm gm n1 n2 sz cap C1 C2 ka kb o X w.drew := h.drewN 1
theorem KX.cell {w0 w w' : World} {X : Nat → Prop} (h : KX w0 X w w') {g i : Nat} (hx : X g) (hg : g < w.heap.size) : w'.cell? ⟨g, i, none⟩ = w.cell? ⟨g, i, none⟩ := cell_heap (KX.fr h |>.block g hg (fun q => q.2 hx))
set_option maxHeartbeats 4000000 in
set_option maxRecDepth 100000 in
theorem pagerFrames_walk (a0 : Int) (a1 : Option Addr) (len1 cap1 : Nat) (F : Nat → Pact) (w : World) (h0 : (Lit.int .u8 a0).wf = true) (hF : PRow w a1 len1 cap1 F) :
    Calls Try.prog 3 #[.int .u8 a0, .slice a1 len1 cap1] w fun e w' => e = .returned (.bool true) ∧ Below w.heap.size w w' := by
  have ha := bounds_u8 h0
  have hlc1 : len1 ≤ cap1 := hF.1
  have hcap1 : cap1 ≤ 9223372036854775807 := by have := hF.2.1; unfold maxLen at this; omega
  have HF := Lib.hid hF.2.2
  clear hF h0
  by_cases hbig : 60 < len1
  · go_enter Try.func3, Try.ntmps3
    go_wp2_with (go_at_call 11; refine (awake7_any _).mono ?_; rintro e w1 ⟨rfl, hb1⟩; have HB1 := Lib.hid hb1; clear hb1)
    go_ret
    exact ⟨rfl, HB1.out⟩
  · have hl1 : len1 ≤ 60 := by omega
    obtain ⟨n, hn⟩ : ∃ n : Nat, (n : Int) = 1 + a0 % 20 := ⟨(1 + a0 % 20).toNat, by omega⟩
    have hn1 : 1 ≤ n := by omega
    have hn8 : n ≤ 20 := by omega
    clear hbig
    go_enter Try.func3, Try.ntmps3
    go_wp2_with fail
    refine (awake7_any _).mono ?_
    rintro e w1 ⟨rfl, hb1⟩
    have HW1 := Lib.hid hb1
    clear hb1
    go_wp2_with fail
    refine (ANew_ok 8192 _ (by omega)).mono ?_
    rintro e w2 ⟨a, bb, rm, gm, rfl, h2, b2, ha2, hbb, hr, hg⟩
    have H2 := Lib.hid h2
    have B2 := Lib.hid (HW1.out.trans (b2.mono HW1.out.size))
    have HA := Lib.hid (show w.heap.size ≤ a ∧ w.heap.size ≤ bb ∧ w.heap.size ≤ rm ∧ w.heap.size ≤ gm from by have := HW1.out.size; omega)
    clear h2 b2 ha2 hbb hr hg
    go_wp2_with fail
    refine (SNew_ok 32 100 w2 (by omega) (by omega) (by omega)).mono ?_
    unfold NuPost
    rintro e w3 ⟨s, m, rfl, h3, b3, hs, hm⟩
    have H3 := Lib.hid h3
    have B3 := Lib.hid b3
    have HS := Lib.hid (And.intro hs hm)
    clear h3 b3 hs hm
    go_wp2_with fail
    refine (SNew_ok 32 100 w3 (by omega) (by omega) (by omega)).mono ?_
    unfold NuPost
    rintro e w4 ⟨s', m', rfl, h4, b4, hs', hm'⟩
    have HN := Lib.hid (S2.new (k1 := 1) (k2 := n) H2.out B2.out HA.out (H3.out.below b4 (Nat.le_refl _)) h4 (B3.out.trans (b4.mono B3.out.size)) HS.out.1 HS.out.2 (by have := B3.out.size; omega) (by have := B3.out.size; omega) (by have h1 := H3.out.lt; have h2 := H3.out.mlt (k := m) (.inr (.inl rfl)); omega) (by decide) (by omega) (by omega) hn1 (by omega) (by omega))
    clear h4 b4 hs' hm'
    go_wp2_with fail
    refine HN.out.mono ?_
    rintro e w5 ⟨A1, rfl, hb5, h5⟩
    have H5 := Lib.hid h5
    clear h5 hb5
    go_wp2_with (go_at_call 14; refine (show Calls Try.prog 14 #[.pointer (some ⟨a, 0, none⟩), .pointer (some ⟨s', 0, none⟩), .int .i64 (1 + a0 % 20)] w5 _ from hn ▸ H5.out).mono ?_; rintro e w6 ⟨A2, rfl, hS⟩; have HS0 : Hid (S2 w A1 A2 bb rm gm 1 n 32 100 (fun _ => zs 32) (fun _ => zs 32) 0 0 (8200 * 0) (fun _ => False) w6) := Lib.hid hS; clear hS)
    clear hn ha
    go_loopw [15] (fun i wr => ∃ (k : Nat) (C : Nat × Nat → List Nat), k ≤ len1 ∧ i = .int .i64 k ∧ Hid (S2 w A1 A2 bb rm gm 1 n 32 100 C C k k (8200 * k) (fun _ => False) wr)) (fun i _ => len1 - (intOf i).toNat)
    case atStart => exact ⟨0, _, Nat.zero_le _, rfl, HS0⟩
    case round =>
      obtain ⟨k, C, hk, rfl, HS⟩ := hrel
      by_cases hlt : k < len1
      · obtain ⟨b, off, rfl, hbl, hact⟩ := HF.out (by omega)
        have hx := hact k hlt
        clear hact
        generalize F k = x at hx
        obtain ⟨kd, mem, page, at_, nn, B, ln, cp, l⟩ := x
        have c0 : wr.cell? ⟨b, off + k * 6, none⟩ = some (.int .u8 (kd : Int)) := (HS.out.bel.cell (p := ⟨b, off + k * 6, none⟩) hbl).trans hx.c0
        have c1 : wr.cell? ⟨b, off + k * 6 + 1, none⟩ = some (.int .i64 mem) := (HS.out.bel.cell (p := ⟨b, off + k * 6 + 1, none⟩) hbl).trans hx.c1
        have c2 : wr.cell? ⟨b, off + k * 6 + 2, none⟩ = some (.int .i64 page) := (HS.out.bel.cell (p := ⟨b, off + k * 6 + 2, none⟩) hbl).trans hx.c2
        have c3 : wr.cell? ⟨b, off + k * 6 + 3, none⟩ = some (.int .i64 at_) := (HS.out.bel.cell (p := ⟨b, off + k * 6 + 3, none⟩) hbl).trans hx.c3
        have c4 : wr.cell? ⟨b, off + k * 6 + 4, none⟩ = some (.int .i64 nn) := (HS.out.bel.cell (p := ⟨b, off + k * 6 + 4, none⟩) hbl).trans hx.c4
        have c5 : wr.cell? ⟨b, off + k * 6 + 5, none⟩ = some (.slice B ln cp) := (HS.out.bel.cell (p := ⟨b, off + k * 6 + 5, none⟩) hbl).trans hx.c5
        have hkd : kd < 256 := hx.kd
        have hlc : ln ≤ cp := hx.byt.2.2.1
        have hcp : cp ≤ 9223372036854775807 := by have := hx.byt.2.2.2.1; unfold maxLen at this; omega
        have HX := Lib.hid hx
        clear hx
        by_cases h40 : 40 < ln
        · go_wp2
          go_ret
          exact ⟨rfl, HS.out.bel.alloc HS.out.bel.size _⟩
        · obtain ⟨o1, ho1⟩ : ∃ o1, o1 = Obj.cells #[.int .u8 (kd : Int), .int .i64 mem, .int .i64 page, .int .i64 at_, .int .i64 nn, .slice B ln cp] 36 := ⟨_, rfl⟩
          have hSa : S2 w A1 A2 bb rm gm 1 n 32 100 C C k k (8200 * k) (fun q => q = wr.heap.size) (wr.alloc o1) := HS.out.ext (S := fun _ => False) ((Fr.refl _ wr).alloc o1) (fun _ q => q.elim) (fun q hq => .inr (by rw [hq, World.size_alloc]; omega))
          have HSA := Lib.hid hSa
          have hl4 : ln ≤ 40 := by omega
          clear HS hSa h40
          have hr4 : (kd : Int) % 4 = 0 ∨ (kd : Int) % 4 = 1 ∨ (kd : Int) % 4 = 2 ∨ (kd : Int) % 4 = 3 := by omega
          have hpg : mem ≤ 9223372036854775807 ∧ page ≤ 9223372036854775807 ∧ at_ ≤ 9223372036854775807 := ⟨HX.out.mem.2, HX.out.page.2, HX.out.at_.2⟩
          have x1 : (wr.alloc o1).cell? ⟨wr.heap.size, 1, none⟩ = some (.int .i64 mem) := by rw [ho1, (Blk.new wr 36 _).cell 1]; rfl
          have x2 : (wr.alloc o1).cell? ⟨wr.heap.size, 2, none⟩ = some (.int .i64 page) := by rw [ho1, (Blk.new wr 36 _).cell 2]; rfl
          have x3 : (wr.alloc o1).cell? ⟨wr.heap.size, 3, none⟩ = some (.int .i64 at_) := by rw [ho1, (Blk.new wr 36 _).cell 3]; rfl
          have x4 : (wr.alloc o1).cell? ⟨wr.heap.size, 4, none⟩ = some (.int .i64 nn) := by rw [ho1, (Blk.new wr 36 _).cell 4]; rfl
          have x5 : (wr.alloc o1).cell? ⟨wr.heap.size, 5, none⟩ = some (.slice B ln cp) := by rw [ho1, (Blk.new wr 36 _).cell 5]; rfl
          have hltX : wr.heap.size < (wr.alloc o1).heap.size := by rw [World.size_alloc]; omega
          have HYB : Hid (Byt (wr.alloc o1) B ln cp l) := Lib.hid (HX.out.byt.kept HSA.out.bel)
          have HGB : Hid (∀ g, B.map (·.block) = some g → 0 < ln → g = wr.heap.size ∨ g < w.heap.size) := Lib.hid (fun g e h => .inr (HX.out.lt g e h))
          rcases hr4 with hr | hr | hr | hr
          · have e0 : ((kd : Int) % 4 == 0) = true := by simp; omega
            subst ho1
            go_wp2_with fail
            refine (HSA.out.read mem page at_ nn hpg.1 hpg.2.1 hpg.2.2 (by omega) (by omega)).mono ?_
            rintro e w7 ⟨B1, m1, cp1, rfl, hy1, hS1, hK1⟩
            have y1 := (hK1.cell (i := 1) rfl hltX).trans x1
            have y2 := (hK1.cell (i := 2) rfl hltX).trans x2
            have y3 := (hK1.cell (i := 3) rfl hltX).trans x3
            have y4 := (hK1.cell (i := 4) rfl hltX).trans x4
            have HS1 := Lib.hid hS1
            have HY1 := Lib.hid hy1
            clear hy1 hS1 hK1 x1 x2 x3 x4 x5 hltX
            go_wp2_with fail
            refine (HS1.out.swap.read mem page at_ nn hpg.1 hpg.2.1 hpg.2.2 (by omega) (by omega)).mono ?_
            rintro e w8 ⟨B2, m2, cp2, rfl, hy2, hS2, hK2⟩
            have hc1 := conv_byt (hK2.bytX HY1.out (fun g e h => .inl (.inr ⟨h, e⟩)))
            have hc2 := conv_byt hy2
            have HS8 := Lib.hid hS2
            clear hy2 hS2 hK2
            generalize rerr 32 mem page at_ nn = r
            generalize rdl 32 C mem page at_ nn = lt at hc1 hc2
            have hne : (r != r) = false := by simp
            have hse : ((str lt).toList == (str lt).toList) = true := by simp
            go_wp2
            go_roundw
            case rel => exact ⟨k + 1, _, by omega, by go_num, Lib.hid ((HS8.out.swap.more (Nat.le_succ _) (Nat.le_succ _) (by omega)).less (fun _ q => False.elim q))⟩
            case measure => simp [intOf]; omega
          · have e0 : ((kd : Int) % 4 == 0) = false := by simp; omega
            have e1 : ((kd : Int) % 4 == 1) = true := by simp; omega
            have e2 : ((kd : Int) % 4 == 2) = false := by simp; omega
            have hyB := HYB.out
            have hgB := HGB.out
            have hwp := HSA.out.drew.write mem page at_ B ln cp l hyB hgB hpg.1 hpg.2.1 hpg.2.2 (by omega) (by omega)
            obtain ⟨rr, hrr⟩ : ∃ rr : Int, rr = rerr 32 mem page at_ ln := ⟨_, rfl⟩
            rw [← hrr] at hwp
            unfold WrU at hwp
            have HRR := Lib.hid hrr
            have HWp := Lib.hid hwp
            clear hrr hwp
            have hne : (rr != rr) = false := by simp
            subst ho1
            go_wp2_with fail
            refine wp_region_held_drew (S := (fun W => W.cell? ⟨wr.heap.size, 1, none⟩ = some (.int .i64 mem) ∧ W.cell? ⟨wr.heap.size, 2, none⟩ = some (.int .i64 page) ∧ W.cell? ⟨wr.heap.size, 3, none⟩ = some (.int .i64 at_) ∧ W.cell? ⟨wr.heap.size, 5, none⟩ = some (.slice B ln cp))) (by kernel_rfl) ⟨x1, x2, x3, x5⟩ (fun hHeld => ?_)
            refine wpAnyH_take (i := 0) (oi := ?oi_1) (v := ?_) ?hi_1 (by kernel_rfl) ?hf_1 (by kernel_rfl) ?hQ_1 ?hy_1 (by assumption) ?_
            case hi_1 => simp only [List.getElem?_toArray, List.getElem?_cons_zero, List.getElem?_cons_succ]; rfl
            case hf_1 => kernel_rfl
            case hQ_1 => exact fun _ _ _ h => h
            case hy_1 =>
              refine Or.inl ⟨by rfl, ?_⟩
              intro W hSw
              obtain ⟨q1, q2, q3, q5⟩ := hSw
              go_simp
              try with_reducible rfl
            try simp only [Act.put, List.setIfInBounds_toArray, List.set_cons_zero, List.set_cons_succ]
            refine wpAnyH_take (i := 1) (oi := ?oi_2) (v := ?_) ?hi_2 (by kernel_rfl) ?hf_2 (by kernel_rfl) ?hQ_2 ?hy_2 (by assumption) ?_
            case hi_2 => simp only [List.getElem?_toArray, List.getElem?_cons_zero, List.getElem?_cons_succ]; rfl
            case hf_2 => kernel_rfl
            case hQ_2 => exact fun _ _ _ h => h
            case hy_2 =>
              refine Or.inl ⟨by rfl, ?_⟩
              intro W hSw
              obtain ⟨q1, q2, q3, q5⟩ := hSw
              go_simp
              try with_reducible rfl
            try simp only [Act.put, List.setIfInBounds_toArray, List.set_cons_zero, List.set_cons_succ]
            refine wpAnyH_take (i := 2) (oi := ?oi_3) (v := ?_) ?hi_3 (by kernel_rfl) ?hf_3 (by kernel_rfl) ?hQ_3 ?hy_3 (by assumption) ?_
            case hi_3 => simp only [List.getElem?_toArray, List.getElem?_cons_zero, List.getElem?_cons_succ]; rfl
            case hf_3 => kernel_rfl
            case hQ_3 => exact fun _ _ _ h => h
            case hy_3 =>
              refine Or.inl ⟨by rfl, ?_⟩
              intro W hSw
              obtain ⟨q1, q2, q3, q5⟩ := hSw
              go_simp
              try with_reducible rfl
            try simp only [Act.put, List.setIfInBounds_toArray, List.set_cons_zero, List.set_cons_succ]
            refine wpAnyH_take (i := 3) (oi := ?oi_4) (v := ?_) ?hi_4 (by kernel_rfl) ?hf_4 (by kernel_rfl) ?hQ_4 ?hy_4 (by assumption) ?_
            case hi_4 => simp only [List.getElem?_toArray, List.getElem?_cons_zero, List.getElem?_cons_succ]; rfl
            case hf_4 => kernel_rfl
            case hQ_4 => exact fun _ _ _ h => h
            case hy_4 =>
              refine Or.inl ⟨by rfl, ?_⟩
              intro W hSw
              obtain ⟨q1, q2, q3, q5⟩ := hSw
              go_simp
              try with_reducible rfl
            try simp only [Act.put, List.setIfInBounds_toArray, List.set_cons_zero, List.set_cons_succ]
            refine wpAnyH_take (i := 4) (oi := ?oi_5) (v := ?_) ?hi_5 (by kernel_rfl) ?hf_5 (by kernel_rfl) ?hQ_5 ?hy_5 (by assumption) ?_
            case hi_5 => simp only [List.getElem?_toArray, List.getElem?_cons_zero, List.getElem?_cons_succ]; rfl
            case hf_5 => kernel_rfl
            case hQ_5 => exact fun _ _ _ h => h
            case hy_5 =>
              refine Or.inl ⟨by rfl, ?_⟩
              intro W hSw
              obtain ⟨q1, q2, q3, q5⟩ := hSw
              go_simp
              try with_reducible rfl
            try simp only [Act.put, List.setIfInBounds_toArray, List.set_cons_zero, List.set_cons_succ]
            refine wpAnyH_take (i := 5) (oi := ?oi_6) (v := ?_) ?hi_6 (by kernel_rfl) ?hf_6 (by kernel_rfl) ?hQ_6 ?hy_6 (by assumption) ?_
            case hi_6 => simp only [List.getElem?_toArray, List.getElem?_cons_zero, List.getElem?_cons_succ]; rfl
            case hf_6 => kernel_rfl
            case hQ_6 => exact fun _ _ _ h => h
            case hy_6 =>
              refine Or.inl ⟨by rfl, ?_⟩
              intro W hSw
              obtain ⟨q1, q2, q3, q5⟩ := hSw
              go_simp
              try with_reducible rfl
            try simp only [Act.put, List.setIfInBounds_toArray, List.set_cons_zero, List.set_cons_succ]
            refine wpAnyH_take (i := 6) (oi := ?oi_7) (v := ?_) ?hi_7 (by kernel_rfl) ?hf_7 (by kernel_rfl) ?hQ_7 ?hy_7 (by assumption) ?_
            case hi_7 => simp only [List.getElem?_toArray, List.getElem?_cons_zero, List.getElem?_cons_succ]; rfl
            case hf_7 => kernel_rfl
            case hQ_7 => exact fun _ _ _ h => h
            case hy_7 =>
              refine Or.inl ⟨by rfl, ?_⟩
              intro W hSw
              obtain ⟨q1, q2, q3, q5⟩ := hSw
              go_simp
              try with_reducible rfl
            try simp only [Act.put, List.setIfInBounds_toArray, List.set_cons_zero, List.set_cons_succ]
            refine wpAnyH_take (i := 7) (oi := ?oi_8) (v := ?_) ?hi_8 (by kernel_rfl) ?hf_8 (by kernel_rfl) ?hQ_8 ?hy_8 (by assumption) ?_
            case hi_8 => simp only [List.getElem?_toArray, List.getElem?_cons_zero, List.getElem?_cons_succ]; rfl
            case hf_8 => kernel_rfl
            case hQ_8 => exact fun _ _ _ h => h
            case hy_8 =>
              refine Or.inl ⟨by rfl, ?_⟩
              intro W hSw
              obtain ⟨q1, q2, q3, q5⟩ := hSw
              go_simp
              try with_reducible rfl
            try simp only [Act.put, List.setIfInBounds_toArray, List.set_cons_zero, List.set_cons_succ]
            refine wpAnyH_take (i := 8) (oi := ?oi_9) (v := ?_) ?hi_9 (by kernel_rfl) ?hf_9 (by kernel_rfl) ?hQ_9 ?hy_9 (by assumption) ?_
            case hi_9 => simp only [List.getElem?_toArray, List.getElem?_cons_zero, List.getElem?_cons_succ]; rfl
            case hf_9 => kernel_rfl
            case hQ_9 => exact fun _ _ _ h => h
            case hy_9 =>
              refine Or.inl ⟨by rfl, ?_⟩
              intro W hSw
              obtain ⟨q1, q2, q3, q5⟩ := hSw
              go_simp
              try with_reducible rfl
            try simp only [Act.put, List.setIfInBounds_toArray, List.set_cons_zero, List.set_cons_succ]
            refine wpAnyH_take (i := 10) (oi := ?oi_10) (v := ?_) ?hi_10 (by kernel_rfl) ?hf_10 (by kernel_rfl) ?hQ_10 ?hy_10 (by assumption) ?_
            case hi_10 => simp only [List.getElem?_toArray, List.getElem?_cons_zero, List.getElem?_cons_succ]; rfl
            case hf_10 => kernel_rfl
            case hQ_10 => exact fun _ _ _ h => h
            case hy_10 =>
              refine Or.inl ⟨by rfl, ?_⟩
              intro W hSw
              obtain ⟨q1, q2, q3, q5⟩ := hSw
              go_simp
              try with_reducible rfl
            try simp only [Act.put, List.setIfInBounds_toArray, List.set_cons_zero, List.set_cons_succ]
            refine wpAnyH_take (i := 11) (oi := ?oi_11) (v := ?_) ?hi_11 (by kernel_rfl) ?hf_11 (by kernel_rfl) ?hQ_11 ?hy_11 (by assumption) ?_
            case hi_11 => simp only [List.getElem?_toArray, List.getElem?_cons_zero, List.getElem?_cons_succ]; rfl
            case hf_11 => kernel_rfl
            case hQ_11 => exact fun _ _ _ h => h
            case hy_11 =>
              refine Or.inl ⟨by rfl, ?_⟩
              intro W hSw
              obtain ⟨q1, q2, q3, q5⟩ := hSw
              go_simp
              try with_reducible rfl
            try simp only [Act.put, List.setIfInBounds_toArray, List.set_cons_zero, List.set_cons_succ]
            refine wpAnyH_take (i := 12) (oi := ?oi_12) (v := ?_) ?hi_12 (by kernel_rfl) ?hf_12 (by kernel_rfl) ?hQ_12 ?hy_12 (by assumption) ?_
            case hi_12 => simp only [List.getElem?_toArray, List.getElem?_cons_zero, List.getElem?_cons_succ]; rfl
            case hf_12 => kernel_rfl
            case hQ_12 => exact fun _ _ _ h => h
            case hy_12 =>
              refine Or.inl ⟨by rfl, ?_⟩
              intro W hSw
              obtain ⟨q1, q2, q3, q5⟩ := hSw
              go_simp
              try with_reducible rfl
            try simp only [Act.put, List.setIfInBounds_toArray, List.set_cons_zero, List.set_cons_succ]
            refine wpAnyH_take (i := 13) (oi := ?oi_13) (v := ?_) ?hi_13 (by kernel_rfl) ?hf_13 (by kernel_rfl) ?hQ_13 ?hy_13 (by assumption) ?_
            case hi_13 => simp only [List.getElem?_toArray, List.getElem?_cons_zero, List.getElem?_cons_succ]; rfl
            case hf_13 => kernel_rfl
            case hQ_13 => exact fun _ _ _ h => h
            case hy_13 =>
              refine Or.inl ⟨by rfl, ?_⟩
              intro W hSw
              obtain ⟨q1, q2, q3, q5⟩ := hSw
              go_simp
              try with_reducible rfl
            try simp only [Act.put, List.setIfInBounds_toArray, List.set_cons_zero, List.set_cons_succ]
            refine wpAnyH_take (i := 14) (oi := ?oi_14) (v := ?_) ?hi_14 (by kernel_rfl) ?hf_14 (by kernel_rfl) ?hQ_14 ?hy_14 (by assumption) ?_
            case hi_14 => simp only [List.getElem?_toArray, List.getElem?_cons_zero, List.getElem?_cons_succ]; rfl
            case hf_14 => kernel_rfl
            case hQ_14 => exact fun _ _ _ h => h
            case hy_14 =>
              refine Or.inl ⟨by rfl, ?_⟩
              intro W hSw
              obtain ⟨q1, q2, q3, q5⟩ := hSw
              go_simp
              try with_reducible rfl
            try simp only [Act.put, List.setIfInBounds_toArray, List.set_cons_zero, List.set_cons_succ]
            refine wpAnyH_take (i := 15) (oi := ?oi_15) (v := ?_) ?hi_15 (by kernel_rfl) ?hf_15 (by kernel_rfl) ?hQ_15 ?hy_15 (by assumption) ?_
            case hi_15 => simp only [List.getElem?_toArray, List.getElem?_cons_zero, List.getElem?_cons_succ]; rfl
            case hf_15 => kernel_rfl
            case hQ_15 => exact fun _ _ _ h => h
            case hy_15 =>
              refine Or.inl ⟨by rfl, ?_⟩
              intro W hSw
              obtain ⟨q1, q2, q3, q5⟩ := hSw
              go_simp
              try with_reducible rfl
            try simp only [Act.put, List.setIfInBounds_toArray, List.set_cons_zero, List.set_cons_succ]
            refine wpAnyH_take (i := 16) (oi := ?oi_16) (v := ?_) ?hi_16 (by kernel_rfl) ?hf_16 (by kernel_rfl) ?hQ_16 ?hy_16 (by assumption) ?_
            case hi_16 => simp only [List.getElem?_toArray, List.getElem?_cons_zero, List.getElem?_cons_succ]; rfl
            case hf_16 => kernel_rfl
            case hQ_16 => exact fun _ _ _ h => h
            case hy_16 =>
              refine Or.inl ⟨by rfl, ?_⟩
              intro W hSw
              obtain ⟨q1, q2, q3, q5⟩ := hSw
              go_simp
              try with_reducible rfl
            try simp only [Act.put, List.setIfInBounds_toArray, List.set_cons_zero, List.set_cons_succ]
            refine wpAnyH_take (i := 17) (oi := ?oi_17) (v := ?_) ?hi_17 (by kernel_rfl) ?hf_17 (by kernel_rfl) ?hQ_17 ?hy_17 (by assumption) ?_
            case hi_17 => simp only [List.getElem?_toArray, List.getElem?_cons_zero, List.getElem?_cons_succ]; rfl
            case hf_17 => kernel_rfl
            case hQ_17 => exact fun _ _ _ h => h
            case hy_17 =>
              refine Or.inl ⟨by rfl, ?_⟩
              intro W hSw
              obtain ⟨q1, q2, q3, q5⟩ := hSw
              go_simp
              try with_reducible rfl
            try simp only [Act.put, List.setIfInBounds_toArray, List.set_cons_zero, List.set_cons_succ]
            refine wpAnyH_take (i := 18) (oi := ?oi_18) (v := ?_) ?hi_18 (by kernel_rfl) ?hf_18 (by kernel_rfl) ?hQ_18 ?hy_18 (by assumption) ?_
            case hi_18 => simp only [List.getElem?_toArray, List.getElem?_cons_zero, List.getElem?_cons_succ]; rfl
            case hf_18 => kernel_rfl
            case hQ_18 => exact fun _ _ _ h => h
            case hy_18 =>
              refine Or.inl ⟨by rfl, ?_⟩
              intro W hSw
              obtain ⟨q1, q2, q3, q5⟩ := hSw
              go_simp
              try with_reducible rfl
            try simp only [Act.put, List.setIfInBounds_toArray, List.set_cons_zero, List.set_cons_succ]
            refine wpAnyH_ready (rs := [9]) (by kernel_rfl) (by simp) ?_
            refine AllReadyH.cons (o := ?oi_19) ?hi_19 (fun K hK => ?_) AllReadyH.nil
            case hi_19 => simp only [List.getElem?_toArray, List.getElem?_cons_zero, List.getElem?_cons_succ]; rfl
            go_simp
            (go_at_call 16
             with_reducible refine HWp.out.mono ?_
             rintro e w7 ⟨rfl, h7, k7⟩
             have HS7 := Lib.hid h7
             have hsz7 := k7.fr.size
             have hpq := h7.swap.write mem page at_ B ln cp l (k7.bytX hyB hgB) hgB hpg.1 hpg.2.1 hpg.2.2 (by omega) (by omega)
             rw [← HRR.out] at hpq
             unfold WrU at hpq
             have HWpq := Lib.hid hpq
             clear hpq
             have hK7 : w7.cell? ⟨wr.heap.size, 1, none⟩ = some (.int .i64 mem) ∧ w7.cell? ⟨wr.heap.size, 2, none⟩ = some (.int .i64 page) ∧ w7.cell? ⟨wr.heap.size, 3, none⟩ = some (.int .i64 at_) ∧ w7.cell? ⟨wr.heap.size, 5, none⟩ = some (.slice B ln cp) := ⟨(k7.cell rfl hltX).trans hHeld.1, (k7.cell rfl hltX).trans hHeld.2.1, (k7.cell rfl hltX).trans hHeld.2.2.1, (k7.cell rfl hltX).trans hHeld.2.2.2⟩
             clear h7 k7)
            refine hK.out _ _ hK7 (fun hHeld => ?_)
            clear hK K hK7
            try simp only [Act.put, List.setIfInBounds_toArray, List.set_cons_zero, List.set_cons_succ]
            refine wpAnyH_ready (rs := [19]) (by kernel_rfl) (by simp) ?_
            refine AllReadyH.cons (o := ?oi_20) ?hi_20 (fun K hK => ?_) AllReadyH.nil
            case hi_20 => simp only [List.getElem?_toArray, List.getElem?_cons_zero, List.getElem?_cons_succ]; rfl
            go_simp
            (go_at_call 16
             with_reducible refine HWpq.out.mono ?_
             rintro e w8 ⟨rfl, h7, k7⟩
             have HS8 := Lib.hid h7
             skip
             have hK8 : w8.cell? ⟨wr.heap.size, 1, none⟩ = some (.int .i64 mem) ∧ w8.cell? ⟨wr.heap.size, 2, none⟩ = some (.int .i64 page) ∧ w8.cell? ⟨wr.heap.size, 3, none⟩ = some (.int .i64 at_) ∧ w8.cell? ⟨wr.heap.size, 5, none⟩ = some (.slice B ln cp) := ⟨(k7.cell rfl (Nat.lt_of_lt_of_le hltX hsz7)).trans hHeld.1, (k7.cell rfl (Nat.lt_of_lt_of_le hltX hsz7)).trans hHeld.2.1, (k7.cell rfl (Nat.lt_of_lt_of_le hltX hsz7)).trans hHeld.2.2.1, (k7.cell rfl (Nat.lt_of_lt_of_le hltX hsz7)).trans hHeld.2.2.2⟩
             clear h7 k7)
            refine hK.out _ _ hK8 (fun hHeld => ?_)
            clear hK K hK8
            try simp only [Act.put, List.setIfInBounds_toArray, List.set_cons_zero, List.set_cons_succ]
            refine wpAnyH_take (i := 20) (oi := ?oi_21) (v := ?_) ?hi_21 (by kernel_rfl) ?hf_21 (by kernel_rfl) ?hQ_21 ?hy_21 (by assumption) ?_
            case hi_21 => simp only [List.getElem?_toArray, List.getElem?_cons_zero, List.getElem?_cons_succ]; rfl
            case hf_21 => kernel_rfl
            case hQ_21 => exact fun _ _ _ h => h
            case hy_21 =>
              refine Or.inl ⟨by rfl, ?_⟩
              intro W hSw
              obtain ⟨q1, q2, q3, q5⟩ := hSw
              go_simp
              try with_reducible rfl
            try simp only [Act.put, List.setIfInBounds_toArray, List.set_cons_zero, List.set_cons_succ]
            refine wpAnyH_done (by kernel_rfl) ?_ _
            clear hHeld
            go_wp2
            go_roundw
            case rel => exact ⟨k + 1, _, by omega, by go_num, Lib.hid ((HS8.out.swap.more (ka' := k + 1) (kb' := k + 1) (o' := 8200 * (k + 1)) (by omega) (by omega) (by omega)).less (fun _ q => False.elim q))⟩
            case measure => simp [intOf]; omega
          · have e0 : ((kd : Int) % 4 == 0) = false := by simp; omega
            have e1 : ((kd : Int) % 4 == 1) = false := by simp; omega
            have e2 : ((kd : Int) % 4 == 2) = true := by simp; omega
            have hyB := HYB.out
            have hgB := HGB.out
            have hwp := HSA.out.drew.drop mem hpg.1 (by omega)
            obtain ⟨rr, hrr⟩ : ∃ rr : Int, rr = (if mem < 0 then (1 : Int) else 0) := ⟨_, rfl⟩
            rw [← hrr] at hwp
            unfold WrU at hwp
            have HRR := Lib.hid hrr
            have HWp := Lib.hid hwp
            clear hrr hwp
            have hne : (rr != rr) = false := by simp
            subst ho1
            go_wp2_with fail
            refine wp_region_held_drew (S := (fun W => W.cell? ⟨wr.heap.size, 1, none⟩ = some (.int .i64 mem) ∧ W.cell? ⟨wr.heap.size, 2, none⟩ = some (.int .i64 page) ∧ W.cell? ⟨wr.heap.size, 3, none⟩ = some (.int .i64 at_) ∧ W.cell? ⟨wr.heap.size, 5, none⟩ = some (.slice B ln cp))) (by kernel_rfl) ⟨x1, x2, x3, x5⟩ (fun hHeld => ?_)
            refine wpAnyH_take (i := 0) (oi := ?oi_22) (v := ?_) ?hi_22 (by kernel_rfl) ?hf_22 (by kernel_rfl) ?hQ_22 ?hy_22 (by assumption) ?_
            case hi_22 => simp only [List.getElem?_toArray, List.getElem?_cons_zero, List.getElem?_cons_succ]; rfl
            case hf_22 => kernel_rfl
            case hQ_22 => exact fun _ _ _ h => h
            case hy_22 =>
              refine Or.inl ⟨by rfl, ?_⟩
              intro W hSw
              obtain ⟨q1, q2, q3, q5⟩ := hSw
              go_simp
              try with_reducible rfl
            try simp only [Act.put, List.setIfInBounds_toArray, List.set_cons_zero, List.set_cons_succ]
            refine wpAnyH_take (i := 1) (oi := ?oi_23) (v := ?_) ?hi_23 (by kernel_rfl) ?hf_23 (by kernel_rfl) ?hQ_23 ?hy_23 (by assumption) ?_
            case hi_23 => simp only [List.getElem?_toArray, List.getElem?_cons_zero, List.getElem?_cons_succ]; rfl
            case hf_23 => kernel_rfl
            case hQ_23 => exact fun _ _ _ h => h
            case hy_23 =>
              refine Or.inl ⟨by rfl, ?_⟩
              intro W hSw
              obtain ⟨q1, q2, q3, q5⟩ := hSw
              go_simp
              try with_reducible rfl
            try simp only [Act.put, List.setIfInBounds_toArray, List.set_cons_zero, List.set_cons_succ]
            refine wpAnyH_take (i := 2) (oi := ?oi_24) (v := ?_) ?hi_24 (by kernel_rfl) ?hf_24 (by kernel_rfl) ?hQ_24 ?hy_24 (by assumption) ?_
            case hi_24 => simp only [List.getElem?_toArray, List.getElem?_cons_zero, List.getElem?_cons_succ]; rfl
            case hf_24 => kernel_rfl
            case hQ_24 => exact fun _ _ _ h => h
            case hy_24 =>
              refine Or.inl ⟨by rfl, ?_⟩
              intro W hSw
              obtain ⟨q1, q2, q3, q5⟩ := hSw
              go_simp
              try with_reducible rfl
            try simp only [Act.put, List.setIfInBounds_toArray, List.set_cons_zero, List.set_cons_succ]
            refine wpAnyH_take (i := 4) (oi := ?oi_25) (v := ?_) ?hi_25 (by kernel_rfl) ?hf_25 (by kernel_rfl) ?hQ_25 ?hy_25 (by assumption) ?_
            case hi_25 => simp only [List.getElem?_toArray, List.getElem?_cons_zero, List.getElem?_cons_succ]; rfl
            case hf_25 => kernel_rfl
            case hQ_25 => exact fun _ _ _ h => h
            case hy_25 =>
              refine Or.inl ⟨by rfl, ?_⟩
              intro W hSw
              obtain ⟨q1, q2, q3, q5⟩ := hSw
              go_simp
              try with_reducible rfl
            try simp only [Act.put, List.setIfInBounds_toArray, List.set_cons_zero, List.set_cons_succ]
            refine wpAnyH_take (i := 5) (oi := ?oi_26) (v := ?_) ?hi_26 (by kernel_rfl) ?hf_26 (by kernel_rfl) ?hQ_26 ?hy_26 (by assumption) ?_
            case hi_26 => simp only [List.getElem?_toArray, List.getElem?_cons_zero, List.getElem?_cons_succ]; rfl
            case hf_26 => kernel_rfl
            case hQ_26 => exact fun _ _ _ h => h
            case hy_26 =>
              refine Or.inl ⟨by rfl, ?_⟩
              intro W hSw
              obtain ⟨q1, q2, q3, q5⟩ := hSw
              go_simp
              try with_reducible rfl
            try simp only [Act.put, List.setIfInBounds_toArray, List.set_cons_zero, List.set_cons_succ]
            refine wpAnyH_take (i := 6) (oi := ?oi_27) (v := ?_) ?hi_27 (by kernel_rfl) ?hf_27 (by kernel_rfl) ?hQ_27 ?hy_27 (by assumption) ?_
            case hi_27 => simp only [List.getElem?_toArray, List.getElem?_cons_zero, List.getElem?_cons_succ]; rfl
            case hf_27 => kernel_rfl
            case hQ_27 => exact fun _ _ _ h => h
            case hy_27 =>
              refine Or.inl ⟨by rfl, ?_⟩
              intro W hSw
              obtain ⟨q1, q2, q3, q5⟩ := hSw
              go_simp
              try with_reducible rfl
            try simp only [Act.put, List.setIfInBounds_toArray, List.set_cons_zero, List.set_cons_succ]
            refine wpAnyH_ready (rs := [3]) (by kernel_rfl) (by simp) ?_
            refine AllReadyH.cons (o := ?oi_28) ?hi_28 (fun K hK => ?_) AllReadyH.nil
            case hi_28 => simp only [List.getElem?_toArray, List.getElem?_cons_zero, List.getElem?_cons_succ]; rfl
            go_simp
            (go_at_call 17
             with_reducible refine HWp.out.mono ?_
             rintro e w7 ⟨rfl, h7, k7⟩
             have HS7 := Lib.hid h7
             have hsz7 := k7.fr.size
             have hpq := h7.swap.drop mem hpg.1 (by omega)
             rw [← HRR.out] at hpq
             unfold WrU at hpq
             have HWpq := Lib.hid hpq
             clear hpq
             have hK7 : w7.cell? ⟨wr.heap.size, 1, none⟩ = some (.int .i64 mem) ∧ w7.cell? ⟨wr.heap.size, 2, none⟩ = some (.int .i64 page) ∧ w7.cell? ⟨wr.heap.size, 3, none⟩ = some (.int .i64 at_) ∧ w7.cell? ⟨wr.heap.size, 5, none⟩ = some (.slice B ln cp) := ⟨(k7.cell rfl hltX).trans hHeld.1, (k7.cell rfl hltX).trans hHeld.2.1, (k7.cell rfl hltX).trans hHeld.2.2.1, (k7.cell rfl hltX).trans hHeld.2.2.2⟩
             clear h7 k7)
            refine hK.out _ _ hK7 (fun hHeld => ?_)
            clear hK K hK7
            try simp only [Act.put, List.setIfInBounds_toArray, List.set_cons_zero, List.set_cons_succ]
            refine wpAnyH_ready (rs := [7]) (by kernel_rfl) (by simp) ?_
            refine AllReadyH.cons (o := ?oi_29) ?hi_29 (fun K hK => ?_) AllReadyH.nil
            case hi_29 => simp only [List.getElem?_toArray, List.getElem?_cons_zero, List.getElem?_cons_succ]; rfl
            go_simp
            (go_at_call 17
             with_reducible refine HWpq.out.mono ?_
             rintro e w8 ⟨rfl, h7, k7⟩
             have HS8 := Lib.hid h7
             skip
             have hK8 : w8.cell? ⟨wr.heap.size, 1, none⟩ = some (.int .i64 mem) ∧ w8.cell? ⟨wr.heap.size, 2, none⟩ = some (.int .i64 page) ∧ w8.cell? ⟨wr.heap.size, 3, none⟩ = some (.int .i64 at_) ∧ w8.cell? ⟨wr.heap.size, 5, none⟩ = some (.slice B ln cp) := ⟨(k7.cell rfl (Nat.lt_of_lt_of_le hltX hsz7)).trans hHeld.1, (k7.cell rfl (Nat.lt_of_lt_of_le hltX hsz7)).trans hHeld.2.1, (k7.cell rfl (Nat.lt_of_lt_of_le hltX hsz7)).trans hHeld.2.2.1, (k7.cell rfl (Nat.lt_of_lt_of_le hltX hsz7)).trans hHeld.2.2.2⟩
             clear h7 k7)
            refine hK.out _ _ hK8 (fun hHeld => ?_)
            clear hK K hK8
            try simp only [Act.put, List.setIfInBounds_toArray, List.set_cons_zero, List.set_cons_succ]
            refine wpAnyH_take (i := 8) (oi := ?oi_30) (v := ?_) ?hi_30 (by kernel_rfl) ?hf_30 (by kernel_rfl) ?hQ_30 ?hy_30 (by assumption) ?_
            case hi_30 => simp only [List.getElem?_toArray, List.getElem?_cons_zero, List.getElem?_cons_succ]; rfl
            case hf_30 => kernel_rfl
            case hQ_30 => exact fun _ _ _ h => h
            case hy_30 =>
              refine Or.inl ⟨by rfl, ?_⟩
              intro W hSw
              obtain ⟨q1, q2, q3, q5⟩ := hSw
              go_simp
              try with_reducible rfl
            try simp only [Act.put, List.setIfInBounds_toArray, List.set_cons_zero, List.set_cons_succ]
            refine wpAnyH_done (by kernel_rfl) ?_ _
            clear hHeld
            go_wp2
            go_roundw
            case rel => exact ⟨k + 1, _, by omega, by go_num, Lib.hid ((HS8.out.swap.more (ka' := k + 1) (kb' := k + 1) (o' := 8200 * (k + 1)) (by omega) (by omega) (by omega)).less (fun _ q => False.elim q))⟩
            case measure => simp [intOf]; omega
          · have e0 : ((kd : Int) % 4 == 0) = false := by simp; omega
            have e1 : ((kd : Int) % 4 == 1) = false := by simp; omega
            have e2 : ((kd : Int) % 4 == 2) = false := by simp; omega
            have HFl := Lib.hid (HSA.out.swap.flush (by omega) (by omega))
            unfold WrU at HFl
            subst ho1
            go_wp2_with (go_at_call 18; refine HFl.out.mono ?_; rintro e w7 ⟨rfl, h7, k7⟩; have HS7 := Lib.hid h7; clear h7 k7)
            go_roundw
            case rel => exact ⟨k + 1, _, by omega, by go_num, Lib.hid ((HS7.out.swap.more (Nat.le_succ _) (Nat.le_succ _) (by omega)).less (fun _ q => False.elim q))⟩
            case measure => simp [intOf]; omega
      · obtain rfl : len1 = k := by omega
        have HFa := Lib.hid HS.out.fault
        have HFb := Lib.hid HS.out.swap.fault
        obtain ⟨q, hq, hres⟩ := HS.out.resident
        have HRs := Lib.hid hres
        clear hres
        go_wp2_with (first
          | (go_at_call 19; (first | with_reducible refine HFa.out.mono ?_ | with_reducible refine HFb.out.mono ?_); rintro e w7 ⟨rfl, rfl⟩)
          | (go_at_call 20; refine HRs.out.mono ?_; rintro e w7 ⟨rfl, rfl⟩))
        go_ret
        exact ⟨ret_bool (by simp; omega), HS.out.bel⟩
end Go.Proofs.Ytlnffcledpccjaa
