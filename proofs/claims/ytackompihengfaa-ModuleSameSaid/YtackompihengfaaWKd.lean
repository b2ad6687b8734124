/-
  ModuleSame: the walk.
-/
import Derived.Test.YtackompihengfaaWKb
import Derived.Test.YtackompihengfaaWKc
import Derived.Test.YtackompihengfaaWKa0
import Derived.Test.YtackompihengfaaWKa1
import Derived.Test.YtackompihengfaaWKa2
import Derived.Test.YtackompihengfaaWKa4
import Derived.Test.YtackompihengfaaWKa5
import Derived.Test.YtackompihengfaaWKa6
import Derived.Test.YtackompihengfaaWKa8
import Derived.Test.YtackompihengfaaWKa9
import Derived.Test.YtackompihengfaaWFh
import Derived.BigQuiet
import Derived.Deep.RegionHeld3
import Derived.Deep.DeepCutAuto
import Derived.Deep.CutBlock
namespace Go.Proofs.Ytackompihengfaa
open Go.RowKit Go.PlainAid Go.ChangeShapes Go.WideShapes Go.ChangeAt
set_option linter.unusedVariables false
set_option linter.unusedSimpArgs false
theorem andl {a b : Bool} (h : (a && b) = true) : a = true := by cases a <;> simp_all
set_option maxHeartbeats 8000000 in
set_option maxRecDepth 1000000 in
theorem moduleSame_walk (x y : Mt) (w : World) (hx : MtAt w x) (hbx : MtBd x) (hy : MtAt w y) (hby : MtBd y) :
    Calls Try.prog 4 #[.agg x.cells, .agg y.cells] w fun e w' => e = .returned (.bool true) ∧ Below w.heap.size w w' := by
  have HGX := Lib.hid (fun W (hW : Below w.heap.size w W) => Great13_ok x W (hx.below hW) hbx)
  have HGY := Lib.hid (fun W (hW : Below w.heap.size w W) => Great13_ok y W (hy.below hW) hby)
  have HTX := Lib.hid (fun (hs : MtSm x) W (hW : Below w.heap.size w W) => To13_ok x W (hx.below hW) hs)
  have HTY := Lib.hid (fun (hs : MtSm y) W (hW : Below w.heap.size w W) => To13_ok y W (hy.below hW) hs)
  have HMX := Lib.hid (fun (hs : MtSm x) W (hW : Below w.heap.size w W) (B g : Nat) (sv fv : Value) (SP SR LV IV : Nat → Value) (S : Nat → Nat → Value) (h : MdAt W B g x sv fv SP SR LV IV S) => h.mo (hx.below hW) hs)
  have HMY := Lib.hid (fun (hs : MtSm y) W (hW : Below w.heap.size w W) (B g : Nat) (sv fv : Value) (SP SR LV IV : Nat → Value) (S : Nat → Nat → Value) (h : MdAt W B g y sv fv SP SR LV IV S) => h.mo (hy.below hW) hs)
  have HSXY := Lib.hid (fun (hs : MtSm x) (ht : MtSm y) W (hW : Below w.heap.size w W) (g g' : Nat) (A0 A2 B0 B2 : Option Addr) (c0 c2 d0 d2 : Nat) (hm : MoAt W g x A0 c0 A2 c2) (hn : MoAt W g' y B0 d0 B2 d2) => Same_ok x y g g' A0 A2 B0 B2 c0 c2 d0 d2 W hm hn (hx.below hW) (hy.below hW) hs ht)
  have HSXX := Lib.hid (fun (hs : MtSm x) W (hW : Below w.heap.size w W) (g g' : Nat) (A0 A2 B0 B2 : Option Addr) (c0 c2 d0 d2 : Nat) (hm : MoAt W g x A0 c0 A2 c2) (hn : MoAt W g' x B0 d0 B2 d2) => (eqM_self x) ▸ Same_ok x x g g' A0 A2 B0 B2 c0 c2 d0 d2 W hm hn (hx.below hW) (hx.below hW) hs hs)
  have HX := Lib.hid (fun W (hW : Below w.heap.size w W) => hx.below hW)
  have HY := Lib.hid (fun W (hW : Below w.heap.size w W) => hy.below hW)
  have HSA := Lib.hid (smA_eq x y)
  obtain ⟨bq, hbq⟩ : ∃ b, b = eqM x y := ⟨_, rfl⟩
  rw [← hbq] at HSXY HSA
  have HBQ := Lib.hid hbq
  have HLN := Lib.hid (@sm0_len x y)
  have HSX := Lib.hid (fun (a : MtSm x) => a)
  have HSY := Lib.hid (fun (a : MtSm y) => a)
  have HW0 : Hid (∃ W, W = (w.alloc (.cells x.cells 31)).alloc (.cells y.cells 31)) := Lib.hid ⟨_, rfl⟩
  obtain ⟨W0, hW0⟩ := HW0.out
  have hb0 : Below w.heap.size w W0 := by rw [hW0]; exact ((Below.refl _ _).alloc (Nat.le_refl _) _).alloc ((Below.refl _ _).alloc (Nat.le_refl _) _).size _
  have hbkx : Blk W0 w.heap.size 31 x.cells := by rw [hW0]; exact (Blk.new w 31 _).below ((Below.refl _ _).alloc (Nat.le_refl _) _) (Blk.new w 31 _).lt
  have hbky : Blk W0 (w.alloc (.cells x.cells 31)).heap.size 31 y.cells := by rw [hW0]; exact Blk.new _ 31 _
  have HB0 := Lib.hid hb0
  have HBX := Lib.hid hbkx
  have HBY := Lib.hid hbky
  have HWE := Lib.hid hW0
  obtain ⟨bx, hbx⟩ : ∃ bx, bx = w.heap.size := ⟨_, rfl⟩
  obtain ⟨bz, hbz⟩ : ∃ bz, bz = bx + 1 := ⟨_, rfl⟩
  rw [← hbx] at HBX
  rw [World.size_alloc, ← hbx, ← hbz] at HBY
  have HBXE := Lib.hid hbx
  have HBZE := Lib.hid hbz
  clear hx hbx hy hby hbq
  clear hb0 hbkx hbky hW0 hbx hbz HW0
  obtain ⟨⟨A0, n0, c0⟩, X0, ⟨A1, n1, c1⟩, X1, ⟨A2, n2, c2⟩, X2, tab, ⟨A4, n4, c4⟩, X4, ⟨A5, n5, c5⟩, X5, ⟨A6, n6, c6⟩, X6, start, ⟨A8, n8, c8⟩, X8, ⟨A9, n9, c9⟩, X9⟩ := x
  obtain ⟨⟨B0, m0, d0⟩, Y0, ⟨B1, m1, d1⟩, Y1, ⟨B2, m2, d2⟩, Y2, tab', ⟨B4, m4, d4⟩, Y4, ⟨B5, m5, d5⟩, Y5, ⟨B6, m6, d6⟩, Y6, start', ⟨B8, m8, d8⟩, Y8, ⟨B9, m9, d9⟩, Y9⟩ := y
  unfold Mt.cells Sv.v at *
  dsimp only at *
  have hbx0 : bx < W0.heap.size := HBX.out.lt
  have hbz0 : bz < W0.heap.size := HBY.out.lt
  have HCX : Hid (∀ W, Below W0.heap.size W0 W → Blk W bx 31 #[.slice A0 n0 c0, .slice A1 n1 c1, .slice A2 n2 c2, .int .i64 tab, .slice A4 n4 c4, .slice A5 n5 c5, .slice A6 n6 c6, .int .i64 start, .slice A8 n8 c8, .slice A9 n9 c9]) := Lib.hid (fun W hW => HBX.out.below hW HBX.out.lt)
  have HCY : Hid (∀ W, Below W0.heap.size W0 W → Blk W bz 31 #[.slice B0 m0 d0, .slice B1 m1 d1, .slice B2 m2 d2, .int .i64 tab', .slice B4 m4 d4, .slice B5 m5 d5, .slice B6 m6 d6, .int .i64 start', .slice B8 m8 d8, .slice B9 m9 d9]) := Lib.hid (fun W hW => HBY.out.below hW HBY.out.lt)
  go_enter Try.func4, Try.ntmps4
  go_wp2_with fail
  rw [← HWE.out, ← HBXE.out]
  rw [← HBZE.out]
  with_reducible refine (HGX.out _ HB0.out).mono ?_
  intro e Wa hg
  unfold MGr at hg
  obtain ⟨hba, r0, rfl, hr0⟩ := hg
  have HBL := Lib.hid (HB0.out.trans (hba.mono HB0.out.size))
  have HB0a := Lib.hid hba
  have HR0 := Lib.hid hr0
  clear hba hr0
  by_cases hz : r0 = 0
  case neg =>
    have hz1 : 0 < r0 := by omega
    go_wp2_with (go_at_call 8; (with_reducible refine (awake13_any _).mono ?_); rintro e w2 ⟨rfl, hb2⟩; have HB2 := Lib.hid (HBL.out.trans (hb2.mono HBL.out.size)); clear hb2)
    go_ret
    exact ⟨rfl, HB2.out⟩
  subst hz
  have HSMX := Lib.hid (HR0.out rfl)
  clear HR0
  have y0 : Wa.cell? ⟨bz, 0, none⟩ = some (.slice B0 m0 d0) := (HCY.out Wa HB0a.out).cell 0
  have y1 : Wa.cell? ⟨bz, 1, none⟩ = some (.slice B1 m1 d1) := (HCY.out Wa HB0a.out).cell 1
  have y2 : Wa.cell? ⟨bz, 2, none⟩ = some (.slice B2 m2 d2) := (HCY.out Wa HB0a.out).cell 2
  have y3 : Wa.cell? ⟨bz, 3, none⟩ = some (.int .i64 tab') := (HCY.out Wa HB0a.out).cell 3
  have y4 : Wa.cell? ⟨bz, 4, none⟩ = some (.slice B4 m4 d4) := (HCY.out Wa HB0a.out).cell 4
  have y5 : Wa.cell? ⟨bz, 5, none⟩ = some (.slice B5 m5 d5) := (HCY.out Wa HB0a.out).cell 5
  have y6 : Wa.cell? ⟨bz, 6, none⟩ = some (.slice B6 m6 d6) := (HCY.out Wa HB0a.out).cell 6
  have y7 : Wa.cell? ⟨bz, 7, none⟩ = some (.int .i64 start') := (HCY.out Wa HB0a.out).cell 7
  have y8 : Wa.cell? ⟨bz, 8, none⟩ = some (.slice B8 m8 d8) := (HCY.out Wa HB0a.out).cell 8
  have y9 : Wa.cell? ⟨bz, 9, none⟩ = some (.slice B9 m9 d9) := (HCY.out Wa HB0a.out).cell 9
  go_wp2_with fail
  with_reducible refine (HGY.out _ HBL.out).mono ?_
  intro e Wb hg
  unfold MGr at hg
  obtain ⟨hbb, r1, rfl, hr1⟩ := hg
  have HBLb := Lib.hid (HBL.out.trans (hbb.mono HBL.out.size))
  have HB0b := Lib.hid (HB0a.out.trans (hbb.mono HB0a.out.size))
  have HR1 := Lib.hid hr1
  clear hbb hr1 y0 y1 y2 y3 y4 y5 y6 y7 y8 y9
  by_cases hz : r1 = 0
  case neg =>
    have hz1 : 0 < r1 := by omega
    go_wp2_with (go_at_call 8; (with_reducible refine (awake13_any _).mono ?_); rintro e w2 ⟨rfl, hb2⟩; have HB2 := Lib.hid (HBLb.out.trans (hb2.mono HBLb.out.size)); clear hb2)
    go_ret
    exact ⟨rfl, HB2.out⟩
  subst hz
  have HSMY := Lib.hid (HR1.out rfl)
  clear HR1
  go_wp2_with fail
  with_reducible refine (awake13_any _).mono ?_
  rintro e Wc ⟨rfl, hbc⟩
  have HBLc := Lib.hid (HBLb.out.trans (hbc.mono HBLb.out.size))
  have HB0c := Lib.hid (HB0b.out.trans (hbc.mono HB0b.out.size))
  clear hbc
  have HBd : Hid (Below w.heap.size w Wc.drew) := Lib.hid (below_drew HBLc.out)
  have HB0d : Hid (Below W0.heap.size W0 Wc.drew) := Lib.hid (below_drew HB0c.out)
  have x0 : Wc.cell? ⟨bx, 0, none⟩ = some (.slice A0 n0 c0) := (HCX.out Wc HB0c.out).cell 0
  have x1 : Wc.cell? ⟨bx, 1, none⟩ = some (.slice A1 n1 c1) := (HCX.out Wc HB0c.out).cell 1
  have x2 : Wc.cell? ⟨bx, 2, none⟩ = some (.slice A2 n2 c2) := (HCX.out Wc HB0c.out).cell 2
  have x3 : Wc.cell? ⟨bx, 3, none⟩ = some (.int .i64 tab) := (HCX.out Wc HB0c.out).cell 3
  have x4 : Wc.cell? ⟨bx, 4, none⟩ = some (.slice A4 n4 c4) := (HCX.out Wc HB0c.out).cell 4
  have x5 : Wc.cell? ⟨bx, 5, none⟩ = some (.slice A5 n5 c5) := (HCX.out Wc HB0c.out).cell 5
  have x6 : Wc.cell? ⟨bx, 6, none⟩ = some (.slice A6 n6 c6) := (HCX.out Wc HB0c.out).cell 6
  have x7 : Wc.cell? ⟨bx, 7, none⟩ = some (.int .i64 start) := (HCX.out Wc HB0c.out).cell 7
  have x8 : Wc.cell? ⟨bx, 8, none⟩ = some (.slice A8 n8 c8) := (HCX.out Wc HB0c.out).cell 8
  have x9 : Wc.cell? ⟨bx, 9, none⟩ = some (.slice A9 n9 c9) := (HCX.out Wc HB0c.out).cell 9
  have y0 : Wc.cell? ⟨bz, 0, none⟩ = some (.slice B0 m0 d0) := (HCY.out Wc HB0c.out).cell 0
  have y1 : Wc.cell? ⟨bz, 1, none⟩ = some (.slice B1 m1 d1) := (HCY.out Wc HB0c.out).cell 1
  have y2 : Wc.cell? ⟨bz, 2, none⟩ = some (.slice B2 m2 d2) := (HCY.out Wc HB0c.out).cell 2
  have y3 : Wc.cell? ⟨bz, 3, none⟩ = some (.int .i64 tab') := (HCY.out Wc HB0c.out).cell 3
  have y4 : Wc.cell? ⟨bz, 4, none⟩ = some (.slice B4 m4 d4) := (HCY.out Wc HB0c.out).cell 4
  have y5 : Wc.cell? ⟨bz, 5, none⟩ = some (.slice B5 m5 d5) := (HCY.out Wc HB0c.out).cell 5
  have y6 : Wc.cell? ⟨bz, 6, none⟩ = some (.slice B6 m6 d6) := (HCY.out Wc HB0c.out).cell 6
  have y7 : Wc.cell? ⟨bz, 7, none⟩ = some (.int .i64 start') := (HCY.out Wc HB0c.out).cell 7
  have y8 : Wc.cell? ⟨bz, 8, none⟩ = some (.slice B8 m8 d8) := (HCY.out Wc HB0c.out).cell 8
  have y9 : Wc.cell? ⟨bz, 9, none⟩ = some (.slice B9 m9 d9) := (HCY.out Wc HB0c.out).cell 9
  go_wp2_with fail
  refine wp_region_noPanic ?_
  refine wp_region_held_drew (S := (fun W => W.cell? ⟨bx, 0, none⟩ = some (.slice A0 n0 c0) ∧ W.cell? ⟨bx, 1, none⟩ = some (.slice A1 n1 c1) ∧ W.cell? ⟨bx, 2, none⟩ = some (.slice A2 n2 c2) ∧ W.cell? ⟨bx, 3, none⟩ = some (.int .i64 tab) ∧ W.cell? ⟨bx, 4, none⟩ = some (.slice A4 n4 c4) ∧ W.cell? ⟨bx, 5, none⟩ = some (.slice A5 n5 c5) ∧ W.cell? ⟨bx, 6, none⟩ = some (.slice A6 n6 c6) ∧ W.cell? ⟨bx, 7, none⟩ = some (.int .i64 start) ∧ W.cell? ⟨bx, 8, none⟩ = some (.slice A8 n8 c8) ∧ W.cell? ⟨bx, 9, none⟩ = some (.slice A9 n9 c9) ∧ W.cell? ⟨bz, 0, none⟩ = some (.slice B0 m0 d0) ∧ W.cell? ⟨bz, 1, none⟩ = some (.slice B1 m1 d1) ∧ W.cell? ⟨bz, 2, none⟩ = some (.slice B2 m2 d2) ∧ W.cell? ⟨bz, 3, none⟩ = some (.int .i64 tab') ∧ W.cell? ⟨bz, 4, none⟩ = some (.slice B4 m4 d4) ∧ W.cell? ⟨bz, 5, none⟩ = some (.slice B5 m5 d5) ∧ W.cell? ⟨bz, 6, none⟩ = some (.slice B6 m6 d6) ∧ W.cell? ⟨bz, 7, none⟩ = some (.int .i64 start') ∧ W.cell? ⟨bz, 8, none⟩ = some (.slice B8 m8 d8) ∧ W.cell? ⟨bz, 9, none⟩ = some (.slice B9 m9 d9))) (by kernel_rfl) ⟨(HCX.out _ HB0c.out).cell 0, (HCX.out _ HB0c.out).cell 1, (HCX.out _ HB0c.out).cell 2, (HCX.out _ HB0c.out).cell 3, (HCX.out _ HB0c.out).cell 4, (HCX.out _ HB0c.out).cell 5, (HCX.out _ HB0c.out).cell 6, (HCX.out _ HB0c.out).cell 7, (HCX.out _ HB0c.out).cell 8, (HCX.out _ HB0c.out).cell 9, (HCY.out _ HB0c.out).cell 0, (HCY.out _ HB0c.out).cell 1, (HCY.out _ HB0c.out).cell 2, (HCY.out _ HB0c.out).cell 3, (HCY.out _ HB0c.out).cell 4, (HCY.out _ HB0c.out).cell 5, (HCY.out _ HB0c.out).cell 6, (HCY.out _ HB0c.out).cell 7, (HCY.out _ HB0c.out).cell 8, (HCY.out _ HB0c.out).cell 9⟩ (fun hHeld => ?_)
  refine wpAnyH_take (i := 0) (oi := ?oi_1) (v := ?_) ?hi_1 (by kernel_rfl) ?hf_1 (by kernel_rfl) ?hQ_1 ?hy_1 (by assumption) ?_
  case hi_1 => simp only [List.getElem?_toArray, List.getElem?_cons_zero, List.getElem?_cons_succ]; try rfl
  case hf_1 => kernel_rfl
  case hQ_1 => exact fun _ _ _ h => h
  case hy_1 =>
    refine Or.inl ⟨by rfl, ?_⟩
    intro W hSw
    obtain ⟨q0, q1, q2, q3, q4, q5, q6, q7, q8, q9, q10, q11, q12, q13, q14, q15, q16, q17, q18, q19⟩ := hSw
    go_simp
    try with_reducible rfl
  try simp only [Act.put, List.setIfInBounds_toArray, List.set_cons_zero, List.set_cons_succ]
  refine wpAnyH_take (i := 2) (oi := ?oi_2) (v := ?_) ?hi_2 (by kernel_rfl) ?hf_2 (by kernel_rfl) ?hQ_2 ?hy_2 (by assumption) ?_
  case hi_2 => simp only [List.getElem?_toArray, List.getElem?_cons_zero, List.getElem?_cons_succ]; try rfl
  case hf_2 => kernel_rfl
  case hQ_2 => exact fun _ _ _ h => h
  case hy_2 =>
    refine Or.inl ⟨by rfl, ?_⟩
    intro W hSw
    obtain ⟨q0, q1, q2, q3, q4, q5, q6, q7, q8, q9, q10, q11, q12, q13, q14, q15, q16, q17, q18, q19⟩ := hSw
    go_simp
    try with_reducible rfl
  try simp only [Act.put, List.setIfInBounds_toArray, List.set_cons_zero, List.set_cons_succ]
  refine wpAnyH_ready (rs := [1]) (by kernel_rfl) (by simp) ?_
  refine AllReadyH.cons (o := ?oi_3) ?hi_3 (fun K hK => ?_) AllReadyH.nil
  case hi_3 => simp only [List.getElem?_toArray, List.getElem?_cons_zero, List.getElem?_cons_succ]; try rfl
  go_simp
  (go_at_call 9
   (with_reducible refine (HTX.out HSMX.out _ HBd.out).mono ?_)
   intro e We he
   obtain ⟨hbe, ga, sv, fv, SP, SR, LV, IV, S, rfl, hm⟩ := he
   have HBLe := Lib.hid (HBd.out.trans (hbe.mono HBd.out.size))
   have HBR := Lib.hid (HB0d.out.trans (hbe.mono HB0d.out.size))
   have HM1 := Lib.hid (HMX.out HSMX.out _ HBLe.out _ _ _ _ _ _ _ _ _ hm)
   clear hbe hm)
  refine hK.out _ _ ⟨(HCX.out _ HBR.out).cell 0, (HCX.out _ HBR.out).cell 1, (HCX.out _ HBR.out).cell 2, (HCX.out _ HBR.out).cell 3, (HCX.out _ HBR.out).cell 4, (HCX.out _ HBR.out).cell 5, (HCX.out _ HBR.out).cell 6, (HCX.out _ HBR.out).cell 7, (HCX.out _ HBR.out).cell 8, (HCX.out _ HBR.out).cell 9, (HCY.out _ HBR.out).cell 0, (HCY.out _ HBR.out).cell 1, (HCY.out _ HBR.out).cell 2, (HCY.out _ HBR.out).cell 3, (HCY.out _ HBR.out).cell 4, (HCY.out _ HBR.out).cell 5, (HCY.out _ HBR.out).cell 6, (HCY.out _ HBR.out).cell 7, (HCY.out _ HBR.out).cell 8, (HCY.out _ HBR.out).cell 9⟩ (fun hHeld => ?_)
  clear hK K
  try simp only [Act.put, List.setIfInBounds_toArray, List.set_cons_zero, List.set_cons_succ]
  refine wpAnyH_ready (rs := [3]) (by kernel_rfl) (by simp) ?_
  refine AllReadyH.cons (o := ?oi_4) ?hi_4 (fun K hK => ?_) AllReadyH.nil
  case hi_4 => simp only [List.getElem?_toArray, List.getElem?_cons_zero, List.getElem?_cons_succ]; try rfl
  go_simp
  (go_at_call 9
   (with_reducible refine (HTY.out HSMY.out _ HBLe.out).mono ?_)
   intro e Wf he
   obtain ⟨hbe, gb, sv', fv', SP', SR', LV', IV', S', rfl, hm⟩ := he
   have HBLf := Lib.hid (HBLe.out.trans (hbe.mono HBLe.out.size))
   have HBe := Lib.hid hbe
   have HBRe := HBR
   have HBR := Lib.hid (HBRe.out.trans (hbe.mono HBRe.out.size))
   have HM2 := Lib.hid (HMY.out HSMY.out _ HBLf.out _ _ _ _ _ _ _ _ _ hm)
   clear hbe hm)
  refine hK.out _ _ ⟨(HCX.out _ HBR.out).cell 0, (HCX.out _ HBR.out).cell 1, (HCX.out _ HBR.out).cell 2, (HCX.out _ HBR.out).cell 3, (HCX.out _ HBR.out).cell 4, (HCX.out _ HBR.out).cell 5, (HCX.out _ HBR.out).cell 6, (HCX.out _ HBR.out).cell 7, (HCX.out _ HBR.out).cell 8, (HCX.out _ HBR.out).cell 9, (HCY.out _ HBR.out).cell 0, (HCY.out _ HBR.out).cell 1, (HCY.out _ HBR.out).cell 2, (HCY.out _ HBR.out).cell 3, (HCY.out _ HBR.out).cell 4, (HCY.out _ HBR.out).cell 5, (HCY.out _ HBR.out).cell 6, (HCY.out _ HBR.out).cell 7, (HCY.out _ HBR.out).cell 8, (HCY.out _ HBR.out).cell 9⟩ (fun hHeld => ?_)
  clear hK K
  try simp only [Act.put, List.setIfInBounds_toArray, List.set_cons_zero, List.set_cons_succ]
  refine wpAnyH_take (i := 4) (oi := ?oi_5) (v := ?_) ?hi_5 (by kernel_rfl) ?hf_5 (by kernel_rfl) ?hQ_5 ?hy_5 (by assumption) ?_
  case hi_5 => simp only [List.getElem?_toArray, List.getElem?_cons_zero, List.getElem?_cons_succ]; try rfl
  case hf_5 => kernel_rfl
  case hQ_5 => exact fun _ _ _ h => h
  case hy_5 =>
    refine Or.inl ⟨by rfl, ?_⟩
    intro W hSw
    obtain ⟨q0, q1, q2, q3, q4, q5, q6, q7, q8, q9, q10, q11, q12, q13, q14, q15, q16, q17, q18, q19⟩ := hSw
    go_simp
    try with_reducible rfl
  try simp only [Act.put, List.setIfInBounds_toArray, List.set_cons_zero, List.set_cons_succ]
  refine wpAnyH_take (i := 5) (oi := ?oi_6) (v := ?_) ?hi_6 (by kernel_rfl) ?hf_6 (by kernel_rfl) ?hQ_6 ?hy_6 (by assumption) ?_
  case hi_6 => simp only [List.getElem?_toArray, List.getElem?_cons_zero, List.getElem?_cons_succ]; try rfl
  case hf_6 => kernel_rfl
  case hQ_6 => exact fun _ _ _ h => h
  case hy_6 =>
    refine Or.inl ⟨by rfl, ?_⟩
    intro W hSw
    obtain ⟨q0, q1, q2, q3, q4, q5, q6, q7, q8, q9, q10, q11, q12, q13, q14, q15, q16, q17, q18, q19⟩ := hSw
    go_simp
    try with_reducible rfl
  try simp only [Act.put, List.setIfInBounds_toArray, List.set_cons_zero, List.set_cons_succ]
  refine wpAnyH_done (by kernel_rfl) ?_ _
  refine NoPanic.normal ?_
  clear hHeld
  clear x0 y0 x1 y1 x2 y2 x3 y3 x4 y4 x5 y5 x6 y6 x7 y7 x8 y8 x9 y9
  obtain ⟨E0, e0, E2, e2, hm1⟩ := HM1.out
  obtain ⟨F0, f0, F2, f2, hm2⟩ := HM2.out
  have hga : ga < Wf.heap.size := Nat.lt_of_lt_of_le hm1.blk.lt HBe.out.size
  have hgb : gb < Wf.heap.size := hm2.blk.lt
  have hbxf : bx < Wf.heap.size := Nat.lt_of_lt_of_le hbx0 HBR.out.size
  have hbzf : bz < Wf.heap.size := Nat.lt_of_lt_of_le hbz0 HBR.out.size
  have HMA := Lib.hid (hm1.below HBe.out)
  have HMB := Lib.hid hm2
  clear hm1 hm2
  go_upto_region 4 with fail
  rename_i ha
  refine smReg4_ok ((HCX.out _ HBR.out).cell 0) ((HCY.out _ HBR.out).cell 0) ((HCX.out _ HBR.out).cell 1) ((HCY.out _ HBR.out).cell 1) ((HCX.out _ HBR.out).cell 2) ((HCY.out _ HBR.out).cell 2) ((HCX.out _ HBR.out).cell 3) ((HCY.out _ HBR.out).cell 3) ((HCX.out _ HBR.out).cell 4) ((HCY.out _ HBR.out).cell 4) ((HCX.out _ HBR.out).cell 5) ((HCY.out _ HBR.out).cell 5) ((HCX.out _ HBR.out).cell 6) ((HCY.out _ HBR.out).cell 6) ((HCX.out _ HBR.out).cell 7) ((HCY.out _ HBR.out).cell 7) ((HCX.out _ HBR.out).cell 8) ((HCY.out _ HBR.out).cell 8) ((HCX.out _ HBR.out).cell 9) ((HCY.out _ HBR.out).cell 9) _ _ _ _ _ _ _ _ _ _ _ _ _ _ _ _ _ _ _ _ _ _ _ _ _ _ _ _ _ _ _ _ _ _ _ _ _ _ _ _ _ _ _ _ _ _ _ _ _ _ _ _ _ _ _ _ _ _ _ _ _ _ _ _ _ _ _ _ _ _ _ _ _ _ _ _ _ _ _ _ _ _ _ _ _ _ _ _ _ _ _ _ _ _ _ _ _ _ _ _ _ _ _ _ _ _ _ _ _ _ _ _ _ _ _ _ _ _ _ _ _ _ _ _ _ _ _ _ _ _ _ _ _ _ _ _ _ _ _ _ _ _ _ _ _ _ _ _ _ _ _ _ _ _ _ _ _ _ _ _ _ _ _ _ _ _ _ _ _ _ _ _ _ _ _ _ _ _ _ _ _ _ _ _ _ _ _ _ _ _ _ _ _ _ _ _ _ _ _ _ _ _ _ _ _ _ _ _ _ _ _ _ _ _ _ _ _ _ _ _ _ _ _ _ _ _ _ _ _ _ _ _ _ _ _ _ _ _ _ _ _ _ _ _ _ _ _ _ _ _ _ _ _ _ _ _ _ _ _ _ _ _ _ _ _ _ _ _ _ _ _ _ _ _ _ _ _ _ _ _ _ _ _ _ _ _ _ _ _ _ _ _ _ _ _ _ _ _ _ _ _ _ _ _ _ _ _ _ _ _ _ _ _ _ _ _ _ _ _ _ _ _ _ _ _ _ _ _ _ _ _ _ _ _ _ _ _ _ _ _ _ _ _ _ _ _ _ _ _ _ _ _ _ _ _ _ _ _ _ _ _ _ _ _ _ _ _ _ _ _ _ _ _ _ _ _ _ _ _ _ _ _ _ _ _ _ _ _ _ _ _ _ _ _ _ _ _ _ _ _ _ _ _ _ _ _ _ _ _ _ _ _ _ _ _ _ _ _ _ _ _ _ _ (fun _ _ _ _ _ _ _ _ _ _ _ _ _ _ _ _ _ _ _ _ _ _ _ _ _ _ _ _ _ _ _ _ _ _ _ _ _ _ _ _ _ _ _ _ _ _ _ _ _ _ _ _ _ _ _ _ _ _ _ _ _ _ _ _ _ _ _ _ _ _ _ _ _ _ _ _ _ _ _ _ _ _ _ _ => ?_)
  refine ha _ _ ?_
  clear ha
  obtain ⟨v, hv⟩ : ∃ v : Bool, v = (decide (n0 = m0) && decide (n1 = m1) && decide (n2 = m2) && decide (tab = tab') && decide (n4 = m4) && decide (n5 = m5) && decide (n6 = m6) && decide (start = start') && decide (n8 = m8) && decide (n9 = m9)) := ⟨_, rfl⟩
  rw [← hv]
  have HV := Lib.hid (fun (h : v = true) => HLN.out (hv.symm.trans h))
  unfold smA sm0 at HSA
  dsimp only at HSA
  rw [← hv] at HSA
  clear hv
  have HBg := Lib.hid (Below.refl Wf.heap.size Wf)
  go_upto_block 0 with fail
  rename_i ha
  refine smLoop0 (A := A0) (B := B0) (n := n0) (m := m0) (c := c0) (c' := d0) (X := X0) (Y := Y0) ?hcx_0 ?hcy_0 ?hr_0 ?hr2_0 ?hn_0 ?hm_0 ?hs_0 _ _ _ _ _ _ _ _ _ _ _ _ _ _ _ _ _ _ _ _ _ _ _ _ _ _ _ _ _ _ _ _ _ _ _ _ _ _ _ _ _ _ _ _ _ _ _ _ _ _ _ _ _ _ _ _ _ _ _ _ _ _ _ _ _ _ _ _ _ _ _ _ _ _ _ _ _ _ _ _ _ _ _ _ _ _ _ _ _ _ _ _ _ _ _ _ _ _ _ _ _ _ _ _ _ _ _ _ _ _ _ _ _ _ _ _ _ _ _ _ _ _ _ _ _ _ _ _ _ _ _ _ _ _ _ _ _ _ _ _ _ _ _ _ _ _ _ _ _ _ _ _ _ _ _ _ _ _ _ _ _ _ _ _ _ _ _ _ _ _ _ _ _ _ _ _ _ _ _ _ _ _ _ _ _ _ _ _ _ _ _ _ _ _ _ _ _ _ _ _ _ _ _ _ _ _ _ _ _ _ _ _ _ _ _ _ _ _ _ _ _ _ _ _ _ _ _ _ _ _ _ _ _ _ _ _ _ _ _ _ _ _ _ _ _ _ _ _ _ _ _ _ _ _ _ _ _ _ _ _ _ _ _ _ _ _ _ _ _ _ _ _ _ _ _ _ _ _ _ _ _ _ _ _ _ _ _ _ _ _ _ _ _ _ _ _ _ _ _ _ _ _ _ _ _ _ _ _ _ _ _ _ _ _ _ _ _ _ _ _ _ _ _ _ _ _ _ _ _ _ _ _ _ _ _ _ _ _ _ _ _ _ _ _ _ _ _ _ _ _ _ _ _ _ _ _ _ _ _ _ _ _ _ _ _ _ _ _ _ _ _ _ _ _ _ _ _ _ _ _ _ _ _ _ _ _ _ _ _ _ _ _ _ _ _ _ _ _ _ _ _ _ _ _ _ _ _ _ _ _ _ _ _ _ _ _ _ _ _ _ _ (fun _ _ _ _ _ _ _ _ _ _ _ _ _ _ _ _ _ _ _ _ _ _ _ _ _ _ _ _ _ _ _ _ _ _ _ _ _ _ _ _ _ _ _ q => ?rest_0)
  case hcx_0 => exact ((HCX.out _ (HBR.out.trans (HBg.out.mono HBR.out.size))).cell 0)
  case hcy_0 => exact ((HCY.out _ (HBR.out.trans (HBg.out.mono HBR.out.size))).cell 0)
  case hr_0 => exact (HX.out _ (HBLf.out.trans (HBg.out.mono HBLf.out.size))).r0
  case hr2_0 => exact (HY.out _ (HBLf.out.trans (HBg.out.mono HBLf.out.size))).r0
  case hn_0 => exact (by have h := HSX.out HSMX.out; have h2 := h.n0; dsimp only at h2; omega)
  case hm_0 => exact (by have h := HSY.out HSMY.out; have h2 := h.n0; dsimp only at h2; omega)
  case hs_0 => exact (fun h => Nat.le_of_eq (HV.out h).1)
  refine ha _ _ ?_
  clear ha
  have HBgo := HBg
  clear HBg
  have HBg := Lib.hid (fun n => below_drewN HBgo.out n)
  clear HBgo
  go_upto_block 2 with fail
  rename_i ha
  refine smLoop1 (A := A1) (B := B1) (n := n1) (m := m1) (c := c1) (c' := d1) (X := X1) (Y := Y1) ?hcx_1 ?hcy_1 ?hr_1 ?hr2_1 ?hn_1 ?hm_1 ?hs_1 _ _ _ _ _ _ _ _ _ _ _ _ _ _ _ _ _ _ _ _ _ _ _ _ _ _ _ _ _ _ _ _ _ _ _ _ _ _ _ _ _ _ _ _ _ _ _ _ _ _ _ _ _ _ _ _ _ _ _ _ _ _ _ _ _ _ _ _ _ _ _ _ _ _ _ _ _ _ _ _ _ _ _ _ _ _ _ _ _ _ _ _ _ _ _ _ _ _ _ _ _ _ _ _ _ _ _ _ _ _ _ _ _ _ _ _ _ _ _ _ _ _ _ _ _ _ _ _ _ _ _ _ _ _ _ _ _ _ _ _ _ _ _ _ _ _ _ _ _ _ _ _ _ _ _ _ _ _ _ _ _ _ _ _ _ _ _ _ _ _ _ _ _ _ _ _ _ _ _ _ _ _ _ _ _ _ _ _ _ _ _ _ _ _ _ _ _ _ _ _ _ _ _ _ _ _ _ _ _ _ _ _ _ _ _ _ _ _ _ _ _ _ _ _ _ _ _ _ _ _ _ _ _ _ _ _ _ _ _ _ _ _ _ _ _ _ _ _ _ _ _ _ _ _ _ _ _ _ _ _ _ _ _ _ _ _ _ _ _ _ _ _ _ _ _ _ _ _ _ _ _ _ _ _ _ _ _ _ _ _ _ _ _ _ _ _ _ _ _ _ _ _ _ _ _ _ _ _ _ _ _ _ _ _ _ _ _ _ _ _ _ _ _ _ _ _ _ _ _ _ _ _ _ _ _ _ _ _ _ _ _ _ _ _ _ _ _ _ _ _ _ _ _ _ _ _ _ _ _ _ _ _ _ _ _ _ _ _ _ _ _ _ _ _ _ _ _ _ _ _ _ _ _ _ _ _ _ _ _ _ _ _ _ _ _ _ _ _ _ _ _ _ _ _ _ _ _ _ _ _ _ _ _ _ _ _ _ _ _ _ _ (fun _ _ _ _ _ _ _ _ _ _ _ _ _ _ _ _ _ _ _ _ _ _ q => ?rest_1)
  case hcx_1 => exact ((HCX.out _ (HBR.out.trans ((HBg.out _).mono HBR.out.size))).cell 1)
  case hcy_1 => exact ((HCY.out _ (HBR.out.trans ((HBg.out _).mono HBR.out.size))).cell 1)
  case hr_1 => exact (HX.out _ (HBLf.out.trans ((HBg.out _).mono HBLf.out.size))).r1
  case hr2_1 => exact (HY.out _ (HBLf.out.trans ((HBg.out _).mono HBLf.out.size))).r1
  case hn_1 => exact (by have h := HSX.out HSMX.out; have h2 := h.n1; dsimp only at h2; omega)
  case hm_1 => exact (by have h := HSY.out HSMY.out; have h2 := h.n1; dsimp only at h2; omega)
  case hs_1 => exact (fun h => Nat.le_of_eq (HV.out (andl h)).2.1)
  refine ha _ _ ?_
  clear ha
  go_upto_block 4 with fail
  rename_i ha
  refine smLoop2 (A := A2) (B := B2) (n := n2) (m := m2) (c := c2) (c' := d2) (c2 := e2) (d2 := f2) (X := X2) (Y := Y2) (A2 := E2) (B2 := F2) ?hbx_2 ?hbz_2 ?hga_2 ?hgb_2 ?hcx_2 ?hcy_2 ?hca_2 ?hcb_2 ?hr_2 ?hr2_2 ?hra_2 ?hrb_2 ?hn_2 ?hm_2 ?hs_2 ?hlx_2 ?hly_2 _ _ _ _ _ _ _ _ _ _ _ _ _ _ _ _ _ _ _ _ _ _ _ _ _ _ _ _ _ _ _ _ _ _ _ _ _ _ _ _ _ _ _ _ _ _ _ _ _ _ _ _ _ _ _ _ _ _ _ _ _ _ _ _ _ _ _ _ _ _ _ _ _ _ _ _ _ _ _ _ _ _ _ _ _ _ _ _ _ _ _ _ _ _ _ _ _ _ _ _ _ _ _ _ _ _ _ _ _ _ _ _ _ _ _ _ _ _ _ _ _ _ _ _ _ _ _ _ _ _ _ _ _ _ _ _ _ _ _ _ _ _ _ _ _ _ _ _ _ _ _ _ _ _ _ _ _ _ _ _ _ _ _ _ _ _ _ _ _ _ _ _ _ _ _ _ _ _ _ _ _ _ _ _ _ _ _ _ _ _ _ _ _ _ _ _ _ _ _ _ _ _ _ _ _ _ _ _ _ _ _ _ _ _ _ _ _ _ _ _ _ _ _ _ _ _ _ _ _ _ _ _ _ _ _ _ _ _ _ _ _ _ _ _ _ _ _ _ _ _ _ _ _ _ _ _ _ _ _ _ _ _ _ _ _ _ _ _ _ _ _ _ _ _ _ _ _ _ _ _ _ _ _ _ _ _ _ _ _ _ _ _ _ _ _ _ _ _ _ _ _ _ _ _ _ _ _ _ _ _ _ _ _ _ _ _ _ _ _ _ _ _ _ _ _ _ _ _ _ _ _ _ _ _ _ _ _ _ _ _ _ _ _ _ _ _ _ _ _ _ _ _ _ _ _ _ _ _ _ _ _ _ _ _ _ _ _ _ _ _ _ _ _ _ _ _ _ _ _ _ _ _ _ _ _ _ _ _ _ _ _ _ _ _ _ _ _ _ _ _ _ _ _ _ _ _ _ _ _ _ _ _ _ _ _ _ _ _ _ (fun _ _ _ _ _ _ _ _ _ _ _ _ _ _ _ _ _ _ _ _ _ _ _ _ _ _ _ _ _ _ _ _ _ _ _ _ _ _ _ _ _ _ _ w' hw' => ?rest_2)
  case hbx_2 => exact Nat.lt_of_lt_of_le hbxf (HBg.out _).size
  case hbz_2 => exact Nat.lt_of_lt_of_le hbzf (HBg.out _).size
  case hga_2 => exact Nat.lt_of_lt_of_le hga (HBg.out _).size
  case hgb_2 => exact Nat.lt_of_lt_of_le hgb (HBg.out _).size
  case hcx_2 => exact ((HCX.out _ (HBR.out.trans ((HBg.out _).mono HBR.out.size))).cell 2)
  case hcy_2 => exact ((HCY.out _ (HBR.out.trans ((HBg.out _).mono HBR.out.size))).cell 2)
  case hca_2 => exact (HMA.out.below (HBg.out _)).blk.cell 2
  case hcb_2 => exact (HMB.out.below (HBg.out _)).blk.cell 2
  case hr_2 => exact (HX.out _ (HBLf.out.trans ((HBg.out _).mono HBLf.out.size))).r2
  case hr2_2 => exact (HY.out _ (HBLf.out.trans ((HBg.out _).mono HBLf.out.size))).r2
  case hra_2 => exact (HMA.out.below (HBg.out _)).r2
  case hrb_2 => exact (HMB.out.below (HBg.out _)).r2
  case hn_2 => exact (by have h := HSX.out HSMX.out; have h2 := h.n2; dsimp only at h2; omega)
  case hm_2 => exact (by have h := HSY.out HSMY.out; have h2 := h.n2; dsimp only at h2; omega)
  case hs_2 => exact (fun h => Nat.le_of_eq (HV.out (andl (andl h))).2.2.1)
  case hlx_2 => exact fun i hi => by have h := (HSX.out HSMX.out).l2 i hi; dsimp only at h; exact ⟨by omega, by have := h.2.1; omega, fun j hj => by have h3 := h.2.2 j hj; omega⟩
  case hly_2 => exact fun i hi => by have h := (HSY.out HSMY.out).l2 i hi; dsimp only at h; exact ⟨by omega, by have := h.2.1; omega, fun j hj => by have h3 := h.2.2 j hj; omega⟩
  refine ha _ _ ?_
  clear ha
  have HBgo := HBg
  have HBg : Hid (Below Wf.heap.size Wf w') := Lib.hid ((HBgo.out _).trans (hw'.mono (HBgo.out _).size))
  clear HBgo hw'
  go_upto_block 6 with fail
  rename_i ha
  refine smLoop4 (A := A4) (B := B4) (n := n4) (m := m4) (c := c4) (c' := d4) (X := X4) (Y := Y4) ?hcx_4 ?hcy_4 ?hr_4 ?hr2_4 ?hn_4 ?hm_4 ?hs_4 _ _ _ _ _ _ _ _ _ _ _ _ _ _ _ _ _ _ _ _ _ _ _ _ _ _ _ _ _ _ _ _ _ _ _ _ _ _ _ _ _ _ _ _ _ _ _ _ _ _ _ _ _ _ _ _ _ _ _ _ _ _ _ _ _ _ _ _ _ _ _ _ _ _ _ _ _ _ _ _ _ _ _ _ _ _ _ _ _ _ _ _ _ _ _ _ _ _ _ _ _ _ _ _ _ _ _ _ _ _ _ _ _ _ _ _ _ _ _ _ _ _ _ _ _ _ _ _ _ _ _ _ _ _ _ _ _ _ _ _ _ _ _ _ _ _ _ _ _ _ _ _ _ _ _ _ _ _ _ _ _ _ _ _ _ _ _ _ _ _ _ _ _ _ _ _ _ _ _ _ _ _ _ _ _ _ _ _ _ _ _ _ _ _ _ _ _ _ _ _ _ _ _ _ _ _ _ _ _ _ _ _ _ _ _ _ _ _ _ _ _ _ _ _ _ _ _ _ _ _ _ _ _ _ _ _ _ _ _ _ _ _ _ _ _ _ _ _ _ _ _ _ _ _ _ _ _ _ _ _ _ _ _ _ _ _ _ _ _ _ _ _ _ _ _ _ _ _ _ _ _ _ _ _ _ _ _ _ _ _ _ _ _ _ _ _ _ _ _ _ _ _ _ _ _ _ _ _ _ _ _ _ _ _ _ _ _ _ _ _ _ _ _ _ _ _ _ _ _ _ _ _ _ _ _ _ _ _ _ _ _ _ _ _ _ _ _ _ _ _ _ _ _ _ _ _ _ _ _ _ _ _ _ _ _ _ _ _ _ _ _ _ _ _ _ _ _ _ _ _ _ _ _ _ _ _ _ _ _ _ _ _ _ _ _ _ _ _ _ _ _ _ _ _ _ _ _ _ _ _ _ _ _ _ _ _ _ _ _ _ _ (fun _ _ _ _ _ _ _ _ _ _ _ _ _ _ _ _ _ _ _ _ _ _ q => ?rest_4)
  case hcx_4 => exact ((HCX.out _ (HBR.out.trans (HBg.out.mono HBR.out.size))).cell 4)
  case hcy_4 => exact ((HCY.out _ (HBR.out.trans (HBg.out.mono HBR.out.size))).cell 4)
  case hr_4 => exact (HX.out _ (HBLf.out.trans (HBg.out.mono HBLf.out.size))).r4
  case hr2_4 => exact (HY.out _ (HBLf.out.trans (HBg.out.mono HBLf.out.size))).r4
  case hn_4 => exact (by have h := HSX.out HSMX.out; have h2 := h.n4; dsimp only at h2; omega)
  case hm_4 => exact (by have h := HSY.out HSMY.out; have h2 := h.n4; dsimp only at h2; omega)
  case hs_4 => exact (fun h => Nat.le_of_eq (HV.out (andl (andl (andl h)))).2.2.2.1)
  refine ha _ _ ?_
  clear ha
  have HBgo := HBg
  clear HBg
  have HBg := Lib.hid (fun n => below_drewN HBgo.out n)
  clear HBgo
  go_upto_block 8 with fail
  rename_i ha
  refine smLoop5 (A := A5) (B := B5) (n := n5) (m := m5) (c := c5) (c' := d5) (X := X5) (Y := Y5) ?hcx_5 ?hcy_5 ?hr_5 ?hr2_5 ?hn_5 ?hm_5 ?hs_5 _ _ _ _ _ _ _ _ _ _ _ _ _ _ _ _ _ _ _ _ _ _ _ _ _ _ _ _ _ _ _ _ _ _ _ _ _ _ _ _ _ _ _ _ _ _ _ _ _ _ _ _ _ _ _ _ _ _ _ _ _ _ _ _ _ _ _ _ _ _ _ _ _ _ _ _ _ _ _ _ _ _ _ _ _ _ _ _ _ _ _ _ _ _ _ _ _ _ _ _ _ _ _ _ _ _ _ _ _ _ _ _ _ _ _ _ _ _ _ _ _ _ _ _ _ _ _ _ _ _ _ _ _ _ _ _ _ _ _ _ _ _ _ _ _ _ _ _ _ _ _ _ _ _ _ _ _ _ _ _ _ _ _ _ _ _ _ _ _ _ _ _ _ _ _ _ _ _ _ _ _ _ _ _ _ _ _ _ _ _ _ _ _ _ _ _ _ _ _ _ _ _ _ _ _ _ _ _ _ _ _ _ _ _ _ _ _ _ _ _ _ _ _ _ _ _ _ _ _ _ _ _ _ _ _ _ _ _ _ _ _ _ _ _ _ _ _ _ _ _ _ _ _ _ _ _ _ _ _ _ _ _ _ _ _ _ _ _ _ _ _ _ _ _ _ _ _ _ _ _ _ _ _ _ _ _ _ _ _ _ _ _ _ _ _ _ _ _ _ _ _ _ _ _ _ _ _ _ _ _ _ _ _ _ _ _ _ _ _ _ _ _ _ _ _ _ _ _ _ _ _ _ _ _ _ _ _ _ _ _ _ _ _ _ _ _ _ _ _ _ _ _ _ _ _ _ _ _ _ _ _ _ _ _ _ _ _ _ _ _ _ _ _ _ _ _ _ _ _ _ _ _ _ _ _ _ _ _ _ _ _ _ _ _ _ _ _ _ _ _ _ _ _ _ _ _ _ _ _ _ _ _ _ _ _ _ _ _ _ _ _ (fun _ _ _ _ _ _ _ _ _ _ _ _ _ _ _ _ _ _ _ _ _ _ q => ?rest_5)
  case hcx_5 => exact ((HCX.out _ (HBR.out.trans ((HBg.out _).mono HBR.out.size))).cell 5)
  case hcy_5 => exact ((HCY.out _ (HBR.out.trans ((HBg.out _).mono HBR.out.size))).cell 5)
  case hr_5 => exact (HX.out _ (HBLf.out.trans ((HBg.out _).mono HBLf.out.size))).r5
  case hr2_5 => exact (HY.out _ (HBLf.out.trans ((HBg.out _).mono HBLf.out.size))).r5
  case hn_5 => exact (by have h := HSX.out HSMX.out; have h2 := h.n5; dsimp only at h2; omega)
  case hm_5 => exact (by have h := HSY.out HSMY.out; have h2 := h.n5; dsimp only at h2; omega)
  case hs_5 => exact (fun h => Nat.le_of_eq (HV.out (andl (andl (andl (andl h))))).2.2.2.2.1)
  refine ha _ _ ?_
  clear ha
  go_upto_block 10 with fail
  rename_i ha
  refine smLoop6 (A := A6) (B := B6) (n := n6) (m := m6) (c := c6) (c' := d6) (X := X6) (Y := Y6) ?hcx_6 ?hcy_6 ?hr_6 ?hr2_6 ?hn_6 ?hm_6 ?hs_6 _ _ _ _ _ _ _ _ _ _ _ _ _ _ _ _ _ _ _ _ _ _ _ _ _ _ _ _ _ _ _ _ _ _ _ _ _ _ _ _ _ _ _ _ _ _ _ _ _ _ _ _ _ _ _ _ _ _ _ _ _ _ _ _ _ _ _ _ _ _ _ _ _ _ _ _ _ _ _ _ _ _ _ _ _ _ _ _ _ _ _ _ _ _ _ _ _ _ _ _ _ _ _ _ _ _ _ _ _ _ _ _ _ _ _ _ _ _ _ _ _ _ _ _ _ _ _ _ _ _ _ _ _ _ _ _ _ _ _ _ _ _ _ _ _ _ _ _ _ _ _ _ _ _ _ _ _ _ _ _ _ _ _ _ _ _ _ _ _ _ _ _ _ _ _ _ _ _ _ _ _ _ _ _ _ _ _ _ _ _ _ _ _ _ _ _ _ _ _ _ _ _ _ _ _ _ _ _ _ _ _ _ _ _ _ _ _ _ _ _ _ _ _ _ _ _ _ _ _ _ _ _ _ _ _ _ _ _ _ _ _ _ _ _ _ _ _ _ _ _ _ _ _ _ _ _ _ _ _ _ _ _ _ _ _ _ _ _ _ _ _ _ _ _ _ _ _ _ _ _ _ _ _ _ _ _ _ _ _ _ _ _ _ _ _ _ _ _ _ _ _ _ _ _ _ _ _ _ _ _ _ _ _ _ _ _ _ _ _ _ _ _ _ _ _ _ _ _ _ _ _ _ _ _ _ _ _ _ _ _ _ _ _ _ _ _ _ _ _ _ _ _ _ _ _ _ _ _ _ _ _ _ _ _ _ _ _ _ _ _ _ _ _ _ _ _ _ _ _ _ _ _ _ _ _ _ _ _ _ _ _ _ _ _ _ _ _ _ _ _ _ _ _ _ _ _ _ _ _ _ _ _ _ _ _ _ _ _ _ _ _ (fun _ _ _ _ _ _ _ _ _ _ _ _ _ _ _ _ _ _ _ _ _ _ q => ?rest_6)
  case hcx_6 => exact ((HCX.out _ (HBR.out.trans ((HBg.out _).mono HBR.out.size))).cell 6)
  case hcy_6 => exact ((HCY.out _ (HBR.out.trans ((HBg.out _).mono HBR.out.size))).cell 6)
  case hr_6 => exact (HX.out _ (HBLf.out.trans ((HBg.out _).mono HBLf.out.size))).r6
  case hr2_6 => exact (HY.out _ (HBLf.out.trans ((HBg.out _).mono HBLf.out.size))).r6
  case hn_6 => exact (by have h := HSX.out HSMX.out; have h2 := h.n6; dsimp only at h2; omega)
  case hm_6 => exact (by have h := HSY.out HSMY.out; have h2 := h.n6; dsimp only at h2; omega)
  case hs_6 => exact (fun h => Nat.le_of_eq (HV.out (andl (andl (andl (andl (andl h)))))).2.2.2.2.2.1)
  refine ha _ _ ?_
  clear ha
  go_upto_block 12 with fail
  rename_i ha
  refine smLoop8 (A := A8) (B := B8) (n := n8) (m := m8) (c := c8) (c' := d8) (X := X8) (Y := Y8) ?hcx_8 ?hcy_8 ?hr_8 ?hr2_8 ?hn_8 ?hm_8 ?hs_8 ?hlx_8 _ _ _ _ _ _ _ _ _ _ _ _ _ _ _ _ _ _ _ _ _ _ _ _ _ _ _ _ _ _ _ _ _ _ _ _ _ _ _ _ _ _ _ _ _ _ _ _ _ _ _ _ _ _ _ _ _ _ _ _ _ _ _ _ _ _ _ _ _ _ _ _ _ _ _ _ _ _ _ _ _ _ _ _ _ _ _ _ _ _ _ _ _ _ _ _ _ _ _ _ _ _ _ _ _ _ _ _ _ _ _ _ _ _ _ _ _ _ _ _ _ _ _ _ _ _ _ _ _ _ _ _ _ _ _ _ _ _ _ _ _ _ _ _ _ _ _ _ _ _ _ _ _ _ _ _ _ _ _ _ _ _ _ _ _ _ _ _ _ _ _ _ _ _ _ _ _ _ _ _ _ _ _ _ _ _ _ _ _ _ _ _ _ _ _ _ _ _ _ _ _ _ _ _ _ _ _ _ _ _ _ _ _ _ _ _ _ _ _ _ _ _ _ _ _ _ _ _ _ _ _ _ _ _ _ _ _ _ _ _ _ _ _ _ _ _ _ _ _ _ _ _ _ _ _ _ _ _ _ _ _ _ _ _ _ _ _ _ _ _ _ _ _ _ _ _ _ _ _ _ _ _ _ _ _ _ _ _ _ _ _ _ _ _ _ _ _ _ _ _ _ _ _ _ _ _ _ _ _ _ _ _ _ _ _ _ _ _ _ _ _ _ _ _ _ _ _ _ _ _ _ _ _ _ _ _ _ _ _ _ _ _ _ _ _ _ _ _ _ _ _ _ _ _ _ _ _ _ _ _ _ _ _ _ _ _ _ _ _ _ _ _ _ _ _ _ _ _ _ _ _ _ _ _ _ _ _ _ _ _ _ _ _ _ _ _ _ _ _ _ _ _ _ _ _ _ _ _ _ _ _ _ _ _ _ _ _ _ _ _ _ (fun _ _ _ _ _ _ _ _ _ _ _ _ _ _ _ _ _ _ _ _ _ _ _ _ _ _ _ _ _ _ _ _ _ _ _ _ _ _ _ _ _ _ _ _ _ _ _ _ _ _ _ _ _ _ _ _ _ _ _ _ _ _ _ _ _ _ _ _ _ _ _ _ _ _ _ q => ?rest_8)
  case hcx_8 => exact ((HCX.out _ (HBR.out.trans ((HBg.out _).mono HBR.out.size))).cell 8)
  case hcy_8 => exact ((HCY.out _ (HBR.out.trans ((HBg.out _).mono HBR.out.size))).cell 8)
  case hr_8 => exact (HX.out _ (HBLf.out.trans ((HBg.out _).mono HBLf.out.size))).r8
  case hr2_8 => exact (HY.out _ (HBLf.out.trans ((HBg.out _).mono HBLf.out.size))).r8
  case hn_8 => exact (by have h := HSX.out HSMX.out; have h2 := h.n8; dsimp only at h2; omega)
  case hm_8 => exact (by have h := HSY.out HSMY.out; have h2 := h.n8; dsimp only at h2; omega)
  case hs_8 => exact (fun h => Nat.le_of_eq (HV.out (andl (andl (andl (andl (andl (andl h))))))).2.2.2.2.2.2.1)
  case hlx_8 => exact fun i hi => by have h := (HSX.out HSMX.out).l8 i hi; dsimp only at h; omega
  refine ha _ _ ?_
  clear ha
  go_upto_block 16 with fail
  rename_i ha
  refine smLoop9 (A := A9) (B := B9) (n := n9) (m := m9) (c := c9) (c' := d9) (X := X9) (Y := Y9) ?hcx_9 ?hcy_9 ?hr_9 ?hr2_9 ?hn_9 ?hm_9 ?hs_9 _ _ _ _ _ _ _ _ _ _ _ _ _ _ _ _ _ _ _ _ _ _ _ _ _ _ _ _ _ _ _ _ _ _ _ _ _ _ _ _ _ _ _ _ _ _ _ _ _ _ _ _ _ _ _ _ _ _ _ _ _ _ _ _ _ _ _ _ _ _ _ _ _ _ _ _ _ _ _ _ _ _ _ _ _ _ _ _ _ _ _ _ _ _ _ _ _ _ _ _ _ _ _ _ _ _ _ _ _ _ _ _ _ _ _ _ _ _ _ _ _ _ _ _ _ _ _ _ _ _ _ _ _ _ _ _ _ _ _ _ _ _ _ _ _ _ _ _ _ _ _ _ _ _ _ _ _ _ _ _ _ _ _ _ _ _ _ _ _ _ _ _ _ _ _ _ _ _ _ _ _ _ _ _ _ _ _ _ _ _ _ _ _ _ _ _ _ _ _ _ _ _ _ _ _ _ _ _ _ _ _ _ _ _ _ _ _ _ _ _ _ _ _ _ _ _ _ _ _ _ _ _ _ _ _ _ _ _ _ _ _ _ _ _ _ _ _ _ _ _ _ _ _ _ _ _ _ _ _ _ _ _ _ _ _ _ _ _ _ _ _ _ _ _ _ _ _ _ _ _ _ _ _ _ _ _ _ _ _ _ _ _ _ _ _ _ _ _ _ _ _ _ _ _ _ _ _ _ _ _ _ _ _ _ _ _ _ _ _ _ _ _ _ _ _ _ _ _ _ _ _ _ _ _ _ _ _ _ _ _ _ _ _ _ _ _ _ _ _ _ _ _ _ _ _ _ _ _ _ _ _ _ _ _ _ _ _ _ _ _ _ _ _ _ _ _ _ _ _ _ _ _ _ _ _ _ _ _ _ _ _ _ _ _ _ _ _ _ _ _ _ _ _ _ _ _ _ _ _ _ _ _ _ _ _ _ _ _ _ _ _ (fun _ _ _ _ _ _ _ _ _ _ _ _ _ _ _ _ _ _ _ _ _ _ _ _ _ _ _ _ _ _ _ _ _ _ _ _ _ _ _ _ _ _ _ _ _ _ _ _ _ _ _ _ _ _ _ _ q => ?rest_9)
  case hcx_9 => exact ((HCX.out _ (HBR.out.trans ((HBg.out _).mono HBR.out.size))).cell 9)
  case hcy_9 => exact ((HCY.out _ (HBR.out.trans ((HBg.out _).mono HBR.out.size))).cell 9)
  case hr_9 => exact (HX.out _ (HBLf.out.trans ((HBg.out _).mono HBLf.out.size))).r9
  case hr2_9 => exact (HY.out _ (HBLf.out.trans ((HBg.out _).mono HBLf.out.size))).r9
  case hn_9 => exact (by have h := HSX.out HSMX.out; have h2 := h.n9; dsimp only at h2; omega)
  case hm_9 => exact (by have h := HSY.out HSMY.out; have h2 := h.n9; dsimp only at h2; omega)
  case hs_9 => exact (fun h => Nat.le_of_eq (HV.out (andl (andl (andl (andl (andl (andl (andl h)))))))).2.2.2.2.2.2.2)
  refine ha _ _ ?_
  clear ha
  rw [HSA.out]
  have HBgL := Lib.hid (fun n => HBLf.out.trans ((HBg.out n).mono HBLf.out.size))
  have HSab := Lib.hid (fun n => HSXY.out HSMX.out HSMY.out _ (HBgL.out n) ga gb _ _ _ _ _ _ _ _ (HMA.out.below (HBg.out n)) (HMB.out.below (HBg.out n)))
  clear HSA HBQ HV HLN
  cases bq with
  | false =>
    go_wp2_with (first
      | (go_at_call 21; (with_reducible refine (HSab.out _).mono ?_); rintro e w5 ⟨rfl, hb5⟩
         have HB5 := Lib.hid ((HBg.out _).trans (hb5.mono (HBg.out _).size))
         have HBL5 := Lib.hid ((HBgL.out _).trans (hb5.mono (HBgL.out _).size))
         have HSaa := Lib.hid (HSXX.out HSMX.out _ HBL5.out ga ga _ _ _ _ _ _ _ _ (HMA.out.below HB5.out) (HMA.out.below HB5.out))
         clear hb5)
      | (go_at_call 21; (with_reducible refine HSaa.out.mono ?_); rintro e w6 ⟨rfl, hb6⟩
         have HB6 := Lib.hid (HBL5.out.trans (hb6.mono HBL5.out.size))
         clear hb6))
    go_ret
    exact ⟨rfl, HB6.out⟩
  | true =>
    go_wp2_with (first
      | (go_at_call 21; (with_reducible refine (HSab.out _).mono ?_); rintro e w5 ⟨rfl, hb5⟩
         have HB5 := Lib.hid ((HBg.out _).trans (hb5.mono (HBg.out _).size))
         have HBL5 := Lib.hid ((HBgL.out _).trans (hb5.mono (HBgL.out _).size))
         have HSaa := Lib.hid (HSXX.out HSMX.out _ HBL5.out ga ga _ _ _ _ _ _ _ _ (HMA.out.below HB5.out) (HMA.out.below HB5.out))
         clear hb5)
      | (go_at_call 21; (with_reducible refine HSaa.out.mono ?_); rintro e w6 ⟨rfl, hb6⟩
         have HB6 := Lib.hid (HBL5.out.trans (hb6.mono HBL5.out.size))
         clear hb6))
    go_ret
    exact ⟨rfl, HB6.out⟩
end Go.Proofs.Ytackompihengfaa
