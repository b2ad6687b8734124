/-
  ModuleFewer: the walk.
-/
import Derived.Test.YtackompihengfaaXA
import Derived.Test.YtackompihengfaaXB
import Derived.Test.YtackompihengfaaFh
import Derived.BigQuiet
import Derived.Deep.RegionHeld3
import Derived.Deep.DeepCutAuto
namespace Go.Proofs.Ytackompihengfaa
open Go.RowKit Go.PlainAid
set_option linter.unusedVariables false
set_option linter.unusedSimpArgs false
theorem row_nil {α : Type} {k : Nat} {It : World → Nat → Nat → α → Prop} {W : World} {X : Nat → α} : Row k It W none 0 0 X := ⟨Nat.le_refl _, Nat.zero_le _, fun h => absurd h (by omega)⟩
/-- To, and Fit of what it makes, of a fit module -/
theorem tofit (y : Mt) (w : World) (hx : MtAt w y) (hs : MtSm y) (hf : MtFit y) : Calls Try.prog 9 #[.agg y.cells] w fun e w' => Below w.heap.size w w' ∧ ∃ g, e = .returned (.pointer (some ⟨g, 0, none⟩)) ∧ Calls Try.prog 22 #[.pointer (some ⟨g, 0, none⟩)] w' fun e2 w2 => e2 = .returned (.tuple #[.string ⟨#[]⟩, .int .i64 0]) ∧ Below w'.heap.size w' w2 := by
  refine (To13_ok y w hx hs).mono ?_
  rintro e w' ⟨hb, g, sv, fv, SP, SR, LV, IV, S, rfl, hm⟩
  exact ⟨hb, g, rfl, Fit_yes hm (hx.below hb) hs hf⟩
set_option maxHeartbeats 8000000 in
set_option maxRecDepth 1000000 in
theorem moduleFewer_walk (x : Mt) (w : World) (hx : MtAt w x) (hb : MtBd x) :
    Calls Try.prog 6 #[.agg x.cells] w fun e w' => e = .returned (.bool true) ∧ Below w.heap.size w w' := by
  have HGR := Lib.hid (fun W (hW : Below w.heap.size w W) => Great13_ok x W (hx.below hW) hb)
  have HUN := Lib.hid (fun (hs : MtSm x) W (hW : Below w.heap.size w W) => Unfit_ok x W (hx.below hW) hs)
  have HX := Lib.hid (fun W (hW : Below w.heap.size w W) => hx.below hW)
  have HSX := Lib.hid (fun (a : MtSm x) => a)
  have HFX := Lib.hid (fun (a : MtFit x) => a)
  have HW0 : Hid (∃ W, W = w.alloc (.cells x.cells 31)) := Lib.hid ⟨_, rfl⟩
  obtain ⟨W0, hW0⟩ := HW0.out
  have hb0 : Below w.heap.size w W0 := by rw [hW0]; exact (Below.refl _ _).alloc (Nat.le_refl _) _
  have hbk : Blk W0 w.heap.size 31 x.cells := by rw [hW0]; exact Blk.new w 31 _
  have HB0 := Lib.hid hb0
  have HBX := Lib.hid hbk
  have HWE := Lib.hid hW0
  obtain ⟨bx, hbx⟩ : ∃ bx, bx = w.heap.size := ⟨_, rfl⟩
  rw [← hbx] at HBX
  have HBXE := Lib.hid hbx
  clear hx hb hb0 hbk hW0 hbx HW0
  obtain ⟨⟨A0, n0, c0⟩, X0, ⟨A1, n1, c1⟩, X1, ⟨A2, n2, c2⟩, X2, tab, ⟨A4, n4, c4⟩, X4, ⟨A5, n5, c5⟩, X5, ⟨A6, n6, c6⟩, X6, start, ⟨A8, n8, c8⟩, X8, ⟨A9, n9, c9⟩, X9⟩ := x
  unfold Mt.cells Sv.v at *
  dsimp only at *
  have hbx0 : bx < W0.heap.size := HBX.out.lt
  have HCX : Hid (∀ W, Below W0.heap.size W0 W → Blk W bx 31 #[.slice A0 n0 c0, .slice A1 n1 c1, .slice A2 n2 c2, .int .i64 tab, .slice A4 n4 c4, .slice A5 n5 c5, .slice A6 n6 c6, .int .i64 start, .slice A8 n8 c8, .slice A9 n9 c9]) := Lib.hid (fun W hW => HBX.out.below hW HBX.out.lt)
  go_enter Try.func6, Try.ntmps6
  go_wp2_with fail
  rw [← HWE.out, ← HBXE.out]
  with_reducible refine (HGR.out _ HB0.out).mono ?_
  intro e Wa hg
  unfold MGr at hg
  obtain ⟨hba, r0, rfl, hr0⟩ := hg
  have HBa := Lib.hid (HB0.out.trans (hba.mono HB0.out.size))
  have HB0a := Lib.hid hba
  have HR0 := Lib.hid hr0
  clear hba hr0
  by_cases hz : r0 = 0
  case neg =>
    have hz1 : 0 < r0 := by omega
    go_wp2_with (go_at_call 8; (with_reducible refine (awake13_any _).mono ?_); rintro e w2 ⟨rfl, hb2⟩; have HB2 := Lib.hid (HBa.out.trans (hb2.mono HBa.out.size)); clear hb2)
    go_ret
    exact ⟨rfl, HB2.out⟩
  subst hz
  have HSMALL := Lib.hid (HR0.out rfl)
  go_wp2_with fail
  with_reducible refine (awake13_any _).mono ?_
  rintro e Wb ⟨rfl, hbb⟩
  have HBb := Lib.hid (HBa.out.trans (hbb.mono HBa.out.size))
  have HB0b := Lib.hid (HB0a.out.trans (hbb.mono HB0a.out.size))
  clear hbb
  have x0 : Wb.cell? ⟨bx, 0, none⟩ = some (.slice A0 n0 c0) := (HCX.out Wb HB0b.out).cell 0
  have x1 : Wb.cell? ⟨bx, 1, none⟩ = some (.slice A1 n1 c1) := (HCX.out Wb HB0b.out).cell 1
  have x2 : Wb.cell? ⟨bx, 2, none⟩ = some (.slice A2 n2 c2) := (HCX.out Wb HB0b.out).cell 2
  have x3 : Wb.cell? ⟨bx, 3, none⟩ = some (.int .i64 tab) := (HCX.out Wb HB0b.out).cell 3
  have x4 : Wb.cell? ⟨bx, 4, none⟩ = some (.slice A4 n4 c4) := (HCX.out Wb HB0b.out).cell 4
  have x5 : Wb.cell? ⟨bx, 5, none⟩ = some (.slice A5 n5 c5) := (HCX.out Wb HB0b.out).cell 5
  have x6 : Wb.cell? ⟨bx, 6, none⟩ = some (.slice A6 n6 c6) := (HCX.out Wb HB0b.out).cell 6
  have x7 : Wb.cell? ⟨bx, 7, none⟩ = some (.int .i64 start) := (HCX.out Wb HB0b.out).cell 7
  have x8 : Wb.cell? ⟨bx, 8, none⟩ = some (.slice A8 n8 c8) := (HCX.out Wb HB0b.out).cell 8
  have x9 : Wb.cell? ⟨bx, 9, none⟩ = some (.slice A9 n9 c9) := (HCX.out Wb HB0b.out).cell 9
  go_wp2_with fail
  with_reducible refine (HUN.out HSMALL.out _ HBb.out).mono ?_
  intro e w7 hu
  unfold UnP at hu
  obtain ⟨hb7, s7, r7, rfl, hr7⟩ := hu
  have HBf := Lib.hid (HBb.out.trans (hb7.mono HBb.out.size))
  have HB0f := Lib.hid (HB0b.out.trans (hb7.mono HB0b.out.size))
  have HR7 := Lib.hid hr7
  clear hb7 hr7
  clear x0 x1 x2 x3 x4 x5 x6 x7 x8 x9
  by_cases hz7 : r7 = 0
  case neg =>
    have hz8 : (r7 != 0) = true := by simp [hz7]
    go_wp2
    go_ret
    exact ⟨rfl, HBf.out⟩
  subst hz7
  have HFIT := Lib.hid (HR7.out rfl)
  clear HR7 HR0 HGR HUN
  go_upto_region 6 with fail
  rename_i ha
  refine mw6_ok (HCX.out _ HB0f.out) _ _ _ _ _ _ _ _ _ _ _ _ _ _ _ _ _ _ _ _ _ _ _ _ _ _ _ _ _ _ _ _ _ _ _ _ _ _ _ _ _ _ _ _ _ _ _ _ _ _ _ _ _ _ _ _ _ _ _ _ _ _ _ _ _ _ _ _ _ _ _ _ _ _ _ _ _ _ _ _ _ _ _ _ _ _ _ _ _ _ (fun V b5 b6 b7 b8 b9 hX h5 h6 h7 h8 h9 h56 h57 h58 h59 h67 h68 h69 h78 h79 h89 => ?_)
  refine ha _ _ ?_
  clear ha
  have hwd : w7.drew.heap.size = w7.heap.size := rfl
  have HV0 := Lib.hid (HBf.out.trans (((below_drew (Below.refl w7.heap.size w7)).trans hX.1).mono HBf.out.size))
  have H5 := Lib.hid h5
  have H6 := Lib.hid h6
  have H7 := Lib.hid h7
  have H8 := Lib.hid h8
  have H9 := Lib.hid h9
  have y56 : V.cell? ⟨b5, 6, none⟩ = some (.slice A6 n6 c6) := h5.1.cell 6
  have f56 : V.frozen? ⟨b5, 6, none⟩ = false := h5.1.frozen 6
  have y67 : V.cell? ⟨b6, 7, none⟩ = some (.int .i64 start) := h6.1.cell 7
  have f67 : V.frozen? ⟨b6, 7, none⟩ = false := h6.1.frozen 7
  have y78 : V.cell? ⟨b7, 8, none⟩ = some (.slice A8 n8 c8) := h7.1.cell 8
  have f78 : V.frozen? ⟨b7, 8, none⟩ = false := h7.1.frozen 8
  have y89 : V.cell? ⟨b8, 9, none⟩ = some (.slice A9 n9 c9) := h8.1.cell 9
  have f89 : V.frozen? ⟨b8, 9, none⟩ = false := h8.1.frozen 9
  have y96 : V.cell? ⟨b9, 6, none⟩ = some (.slice A6 n6 c6) := h9.1.cell 6
  have f96 : V.frozen? ⟨b9, 6, none⟩ = false := h9.1.frozen 6
  have y97 : V.cell? ⟨b9, 7, none⟩ = some (.int .i64 start) := h9.1.cell 7
  have f97 : V.frozen? ⟨b9, 7, none⟩ = false := h9.1.frozen 7
  have y98 : V.cell? ⟨b9, 8, none⟩ = some (.slice A8 n8 c8) := h9.1.cell 8
  have f98 : V.frozen? ⟨b9, 8, none⟩ = false := h9.1.frozen 8
  have y99 : V.cell? ⟨b9, 9, none⟩ = some (.slice A9 n9 c9) := h9.1.cell 9
  have f99 : V.frozen? ⟨b9, 9, none⟩ = false := h9.1.frozen 9
  clear h5 h6 h7 h8 h9
  have n56 : b6 ≠ b5 := Ne.symm h56
  have n57 : b7 ≠ b5 := Ne.symm h57
  have n58 : b8 ≠ b5 := Ne.symm h58
  have n59 : b9 ≠ b5 := Ne.symm h59
  have n67 : b7 ≠ b6 := Ne.symm h67
  have n68 : b8 ≠ b6 := Ne.symm h68
  have n69 : b9 ≠ b6 := Ne.symm h69
  have n78 : b8 ≠ b7 := Ne.symm h78
  have n79 : b9 ≠ b7 := Ne.symm h79
  have n89 : b9 ≠ b8 := Ne.symm h89
  go_upto_region 9 with fail
  obtain ⟨U, hU⟩ : ∃ U, U = ((((((((V.setCell ⟨b5, 6, none⟩ (.slice none 0 0)).setCell ⟨b6, 7, none⟩ (.int .i64 (-1))).setCell ⟨b7, 8, none⟩ (.slice none 0 0)).setCell ⟨b8, 9, none⟩ (.slice none 0 0)).setCell ⟨b9, 6, none⟩ (.slice none 0 0)).setCell ⟨b9, 7, none⟩ (.int .i64 (-1))).setCell ⟨b9, 8, none⟩ (.slice none 0 0)).setCell ⟨b9, 9, none⟩ (.slice none 0 0)) := ⟨_, rfl⟩
  have hFr : Fr (fun k => w7.drew.heap.size ≤ k) V U := by
    rw [hU]
    exact (((((((((Fr.refl _ _)).set_ (p := ⟨b5, 6, none⟩) H5.out.2 _).set_ (p := ⟨b6, 7, none⟩) H6.out.2 _).set_ (p := ⟨b7, 8, none⟩) H7.out.2 _).set_ (p := ⟨b8, 9, none⟩) H8.out.2 _).set_ (p := ⟨b9, 6, none⟩) H9.out.2 _).set_ (p := ⟨b9, 7, none⟩) H9.out.2 _).set_ (p := ⟨b9, 8, none⟩) H9.out.2 _).set_ (p := ⟨b9, 9, none⟩) H9.out.2 _
  have hBU := hFr.below HV0.out HV0.out.size (fun k hk => Nat.le_trans HBf.out.size hk)
  have kb5 : Blk U b5 31 #[.slice A0 n0 c0, .slice A1 n1 c1, .slice A2 n2 c2, .int .i64 tab, .slice A4 n4 c4, .slice A5 n5 c5, .slice none 0 0, .int .i64 start, .slice A8 n8 c8, .slice A9 n9 c9] := by
    rw [hU]
    exact ((((((((H5.out.1).set_ 6 (.slice none 0 0)).far (p := ⟨b6, 7, none⟩) h56 (.int .i64 (-1))).far (p := ⟨b7, 8, none⟩) h57 (.slice none 0 0)).far (p := ⟨b8, 9, none⟩) h58 (.slice none 0 0)).far (p := ⟨b9, 6, none⟩) h59 (.slice none 0 0)).far (p := ⟨b9, 7, none⟩) h59 (.int .i64 (-1))).far (p := ⟨b9, 8, none⟩) h59 (.slice none 0 0)).far (p := ⟨b9, 9, none⟩) h59 (.slice none 0 0)
  have HC5 := Lib.hid (fun W (hW : Below U.heap.size U W) => kb5.below hW kb5.lt)
  have kb6 : Blk U b6 31 #[.slice A0 n0 c0, .slice A1 n1 c1, .slice A2 n2 c2, .int .i64 tab, .slice A4 n4 c4, .slice A5 n5 c5, .slice A6 n6 c6, .int .i64 (-1), .slice A8 n8 c8, .slice A9 n9 c9] := by
    rw [hU]
    exact ((((((((H6.out.1).far (p := ⟨b5, 6, none⟩) n56 (.slice none 0 0)).set_ 7 (.int .i64 (-1))).far (p := ⟨b7, 8, none⟩) h67 (.slice none 0 0)).far (p := ⟨b8, 9, none⟩) h68 (.slice none 0 0)).far (p := ⟨b9, 6, none⟩) h69 (.slice none 0 0)).far (p := ⟨b9, 7, none⟩) h69 (.int .i64 (-1))).far (p := ⟨b9, 8, none⟩) h69 (.slice none 0 0)).far (p := ⟨b9, 9, none⟩) h69 (.slice none 0 0)
  have HC6 := Lib.hid (fun W (hW : Below U.heap.size U W) => kb6.below hW kb6.lt)
  have kb7 : Blk U b7 31 #[.slice A0 n0 c0, .slice A1 n1 c1, .slice A2 n2 c2, .int .i64 tab, .slice A4 n4 c4, .slice A5 n5 c5, .slice A6 n6 c6, .int .i64 start, .slice none 0 0, .slice A9 n9 c9] := by
    rw [hU]
    exact ((((((((H7.out.1).far (p := ⟨b5, 6, none⟩) n57 (.slice none 0 0)).far (p := ⟨b6, 7, none⟩) n67 (.int .i64 (-1))).set_ 8 (.slice none 0 0)).far (p := ⟨b8, 9, none⟩) h78 (.slice none 0 0)).far (p := ⟨b9, 6, none⟩) h79 (.slice none 0 0)).far (p := ⟨b9, 7, none⟩) h79 (.int .i64 (-1))).far (p := ⟨b9, 8, none⟩) h79 (.slice none 0 0)).far (p := ⟨b9, 9, none⟩) h79 (.slice none 0 0)
  have HC7 := Lib.hid (fun W (hW : Below U.heap.size U W) => kb7.below hW kb7.lt)
  have kb8 : Blk U b8 31 #[.slice A0 n0 c0, .slice A1 n1 c1, .slice A2 n2 c2, .int .i64 tab, .slice A4 n4 c4, .slice A5 n5 c5, .slice A6 n6 c6, .int .i64 start, .slice A8 n8 c8, .slice none 0 0] := by
    rw [hU]
    exact ((((((((H8.out.1).far (p := ⟨b5, 6, none⟩) n58 (.slice none 0 0)).far (p := ⟨b6, 7, none⟩) n68 (.int .i64 (-1))).far (p := ⟨b7, 8, none⟩) n78 (.slice none 0 0)).set_ 9 (.slice none 0 0)).far (p := ⟨b9, 6, none⟩) h89 (.slice none 0 0)).far (p := ⟨b9, 7, none⟩) h89 (.int .i64 (-1))).far (p := ⟨b9, 8, none⟩) h89 (.slice none 0 0)).far (p := ⟨b9, 9, none⟩) h89 (.slice none 0 0)
  have HC8 := Lib.hid (fun W (hW : Below U.heap.size U W) => kb8.below hW kb8.lt)
  have kb9 : Blk U b9 31 #[.slice A0 n0 c0, .slice A1 n1 c1, .slice A2 n2 c2, .int .i64 tab, .slice A4 n4 c4, .slice A5 n5 c5, .slice none 0 0, .int .i64 (-1), .slice none 0 0, .slice none 0 0] := by
    rw [hU]
    exact ((((((((H9.out.1).far (p := ⟨b5, 6, none⟩) n59 (.slice none 0 0)).far (p := ⟨b6, 7, none⟩) n69 (.int .i64 (-1))).far (p := ⟨b7, 8, none⟩) n79 (.slice none 0 0)).far (p := ⟨b8, 9, none⟩) n89 (.slice none 0 0)).set_ 6 (.slice none 0 0)).set_ 7 (.int .i64 (-1))).set_ 8 (.slice none 0 0)).set_ 9 (.slice none 0 0)
  have HC9 := Lib.hid (fun W (hW : Below U.heap.size U W) => kb9.below hW kb9.lt)
  rw [← hU]
  have HBU := Lib.hid hBU
  clear hU hFr hBU kb5 kb6 kb7 kb8 kb9 y56 f56 y67 f67 y78 f78 y89 f89 y96 f96 y97 f97 y98 f98 y99 f99 H5 H6 H7 H8 H9 h56 n56 h57 n57 h58 n58 h59 n59 h67 n67 h68 n68 h69 n69 h78 n78 h79 n79 h89 n89 hX hwd
  have hT5 := Lib.hid (tofit (⟨⟨A0, n0, c0⟩, X0, ⟨A1, n1, c1⟩, X1, ⟨A2, n2, c2⟩, X2, tab, ⟨A4, n4, c4⟩, X4, ⟨A5, n5, c5⟩, X5, ⟨none, 0, 0⟩, X6, start, ⟨A8, n8, c8⟩, X8, ⟨A9, n9, c9⟩, X9⟩ : Mt) U (by have r := HX.out U HBU.out; exact ⟨r.r0, r.r1, r.r2, r.r4, r.r5, row_nil, r.r8, r.r9⟩) (by have a := HSMALL.out; exact ⟨a.n0, a.n1, a.n2, a.n4, a.n5, Nat.zero_le _, a.n8, a.n9, a.l0, a.l1, a.l2, fun i hi => absurd hi (Nat.not_lt_zero i), a.l8, a.l9⟩) (by have a := HFIT.out; exact ⟨a.n0, a.l0, a.n1, a.l1, a.na, a.l2, a.tab, a.n4, a.l4, a.n5, a.l5, Nat.zero_le _, fun i hi => absurd hi (Nat.not_lt_zero i), a.st, a.n8, a.l8, a.n9, a.l9⟩))
  unfold Mt.cells Sv.v at hT5
  dsimp only at hT5
  have x0 : U.cell? ⟨b5, 0, none⟩ = some (.slice A0 n0 c0) := (HC5.out U (Below.refl U.heap.size U)).cell 0
  have x1 : U.cell? ⟨b5, 1, none⟩ = some (.slice A1 n1 c1) := (HC5.out U (Below.refl U.heap.size U)).cell 1
  have x2 : U.cell? ⟨b5, 2, none⟩ = some (.slice A2 n2 c2) := (HC5.out U (Below.refl U.heap.size U)).cell 2
  have x3 : U.cell? ⟨b5, 3, none⟩ = some (.int .i64 tab) := (HC5.out U (Below.refl U.heap.size U)).cell 3
  have x4 : U.cell? ⟨b5, 4, none⟩ = some (.slice A4 n4 c4) := (HC5.out U (Below.refl U.heap.size U)).cell 4
  have x5 : U.cell? ⟨b5, 5, none⟩ = some (.slice A5 n5 c5) := (HC5.out U (Below.refl U.heap.size U)).cell 5
  have x6 : U.cell? ⟨b5, 6, none⟩ = some (.slice none 0 0) := (HC5.out U (Below.refl U.heap.size U)).cell 6
  have x7 : U.cell? ⟨b5, 7, none⟩ = some (.int .i64 start) := (HC5.out U (Below.refl U.heap.size U)).cell 7
  have x8 : U.cell? ⟨b5, 8, none⟩ = some (.slice A8 n8 c8) := (HC5.out U (Below.refl U.heap.size U)).cell 8
  have x9 : U.cell? ⟨b5, 9, none⟩ = some (.slice A9 n9 c9) := (HC5.out U (Below.refl U.heap.size U)).cell 9
  go_upto_region 10 with (first
    | (go_at_call 9; (with_reducible refine hT5.out.mono ?_); rintro e u5 ⟨hb, g5, rfl, hF⟩
       have HF5 := Lib.hid hF
       have HBa5 := Lib.hid (HBU.out.trans (hb.mono HBU.out.size))
       have HUa5 := Lib.hid ((Below.refl U.heap.size U).trans (hb.mono (Below.refl U.heap.size U).size))
       clear hb hF)
    | (go_at_call 22; (with_reducible refine HF5.out.mono ?_); rintro e v5 ⟨rfl, hb⟩
       have HBb5 := Lib.hid (HBa5.out.trans (hb.mono HBa5.out.size))
       have HUb5 := Lib.hid (HUa5.out.trans (hb.mono HUa5.out.size))
       clear hb))
  clear x0 x1 x2 x3 x4 x5 x6 x7 x8 x9
  have hT6 := Lib.hid (tofit (⟨⟨A0, n0, c0⟩, X0, ⟨A1, n1, c1⟩, X1, ⟨A2, n2, c2⟩, X2, tab, ⟨A4, n4, c4⟩, X4, ⟨A5, n5, c5⟩, X5, ⟨A6, n6, c6⟩, X6, -1, ⟨A8, n8, c8⟩, X8, ⟨A9, n9, c9⟩, X9⟩ : Mt) v5 (by have r := HX.out v5 HBb5.out; exact ⟨r.r0, r.r1, r.r2, r.r4, r.r5, r.r6, r.r8, r.r9⟩) (by have a := HSMALL.out; exact ⟨a.n0, a.n1, a.n2, a.n4, a.n5, a.n6, a.n8, a.n9, a.l0, a.l1, a.l2, a.l6, a.l8, a.l9⟩) (by have a := HFIT.out; exact ⟨a.n0, a.l0, a.n1, a.l1, a.na, a.l2, a.tab, a.n4, a.l4, a.n5, a.l5, a.n6, a.l6, .inl rfl, a.n8, a.l8, a.n9, a.l9⟩))
  unfold Mt.cells Sv.v at hT6
  dsimp only at hT6
  have x0 : v5.cell? ⟨b6, 0, none⟩ = some (.slice A0 n0 c0) := (HC6.out v5 HUb5.out).cell 0
  have x1 : v5.cell? ⟨b6, 1, none⟩ = some (.slice A1 n1 c1) := (HC6.out v5 HUb5.out).cell 1
  have x2 : v5.cell? ⟨b6, 2, none⟩ = some (.slice A2 n2 c2) := (HC6.out v5 HUb5.out).cell 2
  have x3 : v5.cell? ⟨b6, 3, none⟩ = some (.int .i64 tab) := (HC6.out v5 HUb5.out).cell 3
  have x4 : v5.cell? ⟨b6, 4, none⟩ = some (.slice A4 n4 c4) := (HC6.out v5 HUb5.out).cell 4
  have x5 : v5.cell? ⟨b6, 5, none⟩ = some (.slice A5 n5 c5) := (HC6.out v5 HUb5.out).cell 5
  have x6 : v5.cell? ⟨b6, 6, none⟩ = some (.slice A6 n6 c6) := (HC6.out v5 HUb5.out).cell 6
  have x7 : v5.cell? ⟨b6, 7, none⟩ = some (.int .i64 (-1)) := (HC6.out v5 HUb5.out).cell 7
  have x8 : v5.cell? ⟨b6, 8, none⟩ = some (.slice A8 n8 c8) := (HC6.out v5 HUb5.out).cell 8
  have x9 : v5.cell? ⟨b6, 9, none⟩ = some (.slice A9 n9 c9) := (HC6.out v5 HUb5.out).cell 9
  go_upto_region 11 with (first
    | (go_at_call 9; (with_reducible refine hT6.out.mono ?_); rintro e u6 ⟨hb, g6, rfl, hF⟩
       have HF6 := Lib.hid hF
       have HBa6 := Lib.hid (HBb5.out.trans (hb.mono HBb5.out.size))
       have HUa6 := Lib.hid (HUb5.out.trans (hb.mono HUb5.out.size))
       clear hb hF)
    | (go_at_call 22; (with_reducible refine HF6.out.mono ?_); rintro e v6 ⟨rfl, hb⟩
       have HBb6 := Lib.hid (HBa6.out.trans (hb.mono HBa6.out.size))
       have HUb6 := Lib.hid (HUa6.out.trans (hb.mono HUa6.out.size))
       clear hb))
  clear x0 x1 x2 x3 x4 x5 x6 x7 x8 x9
  have hT7 := Lib.hid (tofit (⟨⟨A0, n0, c0⟩, X0, ⟨A1, n1, c1⟩, X1, ⟨A2, n2, c2⟩, X2, tab, ⟨A4, n4, c4⟩, X4, ⟨A5, n5, c5⟩, X5, ⟨A6, n6, c6⟩, X6, start, ⟨none, 0, 0⟩, X8, ⟨A9, n9, c9⟩, X9⟩ : Mt) v6 (by have r := HX.out v6 HBb6.out; exact ⟨r.r0, r.r1, r.r2, r.r4, r.r5, r.r6, row_nil, r.r9⟩) (by have a := HSMALL.out; exact ⟨a.n0, a.n1, a.n2, a.n4, a.n5, a.n6, Nat.zero_le _, a.n9, a.l0, a.l1, a.l2, a.l6, fun i hi => absurd hi (Nat.not_lt_zero i), a.l9⟩) (by have a := HFIT.out; exact ⟨a.n0, a.l0, a.n1, a.l1, a.na, a.l2, a.tab, a.n4, a.l4, a.n5, a.l5, a.n6, a.l6, a.st, Nat.zero_le _, fun i hi => absurd hi (Nat.not_lt_zero i), a.n9, a.l9⟩))
  unfold Mt.cells Sv.v at hT7
  dsimp only at hT7
  have x0 : v6.cell? ⟨b7, 0, none⟩ = some (.slice A0 n0 c0) := (HC7.out v6 HUb6.out).cell 0
  have x1 : v6.cell? ⟨b7, 1, none⟩ = some (.slice A1 n1 c1) := (HC7.out v6 HUb6.out).cell 1
  have x2 : v6.cell? ⟨b7, 2, none⟩ = some (.slice A2 n2 c2) := (HC7.out v6 HUb6.out).cell 2
  have x3 : v6.cell? ⟨b7, 3, none⟩ = some (.int .i64 tab) := (HC7.out v6 HUb6.out).cell 3
  have x4 : v6.cell? ⟨b7, 4, none⟩ = some (.slice A4 n4 c4) := (HC7.out v6 HUb6.out).cell 4
  have x5 : v6.cell? ⟨b7, 5, none⟩ = some (.slice A5 n5 c5) := (HC7.out v6 HUb6.out).cell 5
  have x6 : v6.cell? ⟨b7, 6, none⟩ = some (.slice A6 n6 c6) := (HC7.out v6 HUb6.out).cell 6
  have x7 : v6.cell? ⟨b7, 7, none⟩ = some (.int .i64 start) := (HC7.out v6 HUb6.out).cell 7
  have x8 : v6.cell? ⟨b7, 8, none⟩ = some (.slice none 0 0) := (HC7.out v6 HUb6.out).cell 8
  have x9 : v6.cell? ⟨b7, 9, none⟩ = some (.slice A9 n9 c9) := (HC7.out v6 HUb6.out).cell 9
  go_upto_region 12 with (first
    | (go_at_call 9; (with_reducible refine hT7.out.mono ?_); rintro e u7 ⟨hb, g7, rfl, hF⟩
       have HF7 := Lib.hid hF
       have HBa7 := Lib.hid (HBb6.out.trans (hb.mono HBb6.out.size))
       have HUa7 := Lib.hid (HUb6.out.trans (hb.mono HUb6.out.size))
       clear hb hF)
    | (go_at_call 22; (with_reducible refine HF7.out.mono ?_); rintro e v7 ⟨rfl, hb⟩
       have HBb7 := Lib.hid (HBa7.out.trans (hb.mono HBa7.out.size))
       have HUb7 := Lib.hid (HUa7.out.trans (hb.mono HUa7.out.size))
       clear hb))
  clear x0 x1 x2 x3 x4 x5 x6 x7 x8 x9
  have hT8 := Lib.hid (tofit (⟨⟨A0, n0, c0⟩, X0, ⟨A1, n1, c1⟩, X1, ⟨A2, n2, c2⟩, X2, tab, ⟨A4, n4, c4⟩, X4, ⟨A5, n5, c5⟩, X5, ⟨A6, n6, c6⟩, X6, start, ⟨A8, n8, c8⟩, X8, ⟨none, 0, 0⟩, X9⟩ : Mt) v7 (by have r := HX.out v7 HBb7.out; exact ⟨r.r0, r.r1, r.r2, r.r4, r.r5, r.r6, r.r8, row_nil⟩) (by have a := HSMALL.out; exact ⟨a.n0, a.n1, a.n2, a.n4, a.n5, a.n6, a.n8, Nat.zero_le _, a.l0, a.l1, a.l2, a.l6, a.l8, fun i hi => absurd hi (Nat.not_lt_zero i)⟩) (by have a := HFIT.out; exact ⟨a.n0, a.l0, a.n1, a.l1, a.na, a.l2, a.tab, a.n4, a.l4, a.n5, a.l5, a.n6, a.l6, a.st, a.n8, a.l8, Nat.zero_le _, fun i hi => absurd hi (Nat.not_lt_zero i)⟩))
  unfold Mt.cells Sv.v at hT8
  dsimp only at hT8
  have x0 : v7.cell? ⟨b8, 0, none⟩ = some (.slice A0 n0 c0) := (HC8.out v7 HUb7.out).cell 0
  have x1 : v7.cell? ⟨b8, 1, none⟩ = some (.slice A1 n1 c1) := (HC8.out v7 HUb7.out).cell 1
  have x2 : v7.cell? ⟨b8, 2, none⟩ = some (.slice A2 n2 c2) := (HC8.out v7 HUb7.out).cell 2
  have x3 : v7.cell? ⟨b8, 3, none⟩ = some (.int .i64 tab) := (HC8.out v7 HUb7.out).cell 3
  have x4 : v7.cell? ⟨b8, 4, none⟩ = some (.slice A4 n4 c4) := (HC8.out v7 HUb7.out).cell 4
  have x5 : v7.cell? ⟨b8, 5, none⟩ = some (.slice A5 n5 c5) := (HC8.out v7 HUb7.out).cell 5
  have x6 : v7.cell? ⟨b8, 6, none⟩ = some (.slice A6 n6 c6) := (HC8.out v7 HUb7.out).cell 6
  have x7 : v7.cell? ⟨b8, 7, none⟩ = some (.int .i64 start) := (HC8.out v7 HUb7.out).cell 7
  have x8 : v7.cell? ⟨b8, 8, none⟩ = some (.slice A8 n8 c8) := (HC8.out v7 HUb7.out).cell 8
  have x9 : v7.cell? ⟨b8, 9, none⟩ = some (.slice none 0 0) := (HC8.out v7 HUb7.out).cell 9
  go_upto_region 13 with (first
    | (go_at_call 9; (with_reducible refine hT8.out.mono ?_); rintro e u8 ⟨hb, g8, rfl, hF⟩
       have HF8 := Lib.hid hF
       have HBa8 := Lib.hid (HBb7.out.trans (hb.mono HBb7.out.size))
       have HUa8 := Lib.hid (HUb7.out.trans (hb.mono HUb7.out.size))
       clear hb hF)
    | (go_at_call 22; (with_reducible refine HF8.out.mono ?_); rintro e v8 ⟨rfl, hb⟩
       have HBb8 := Lib.hid (HBa8.out.trans (hb.mono HBa8.out.size))
       have HUb8 := Lib.hid (HUa8.out.trans (hb.mono HUa8.out.size))
       clear hb))
  clear x0 x1 x2 x3 x4 x5 x6 x7 x8 x9
  have hT9 := Lib.hid (tofit (⟨⟨A0, n0, c0⟩, X0, ⟨A1, n1, c1⟩, X1, ⟨A2, n2, c2⟩, X2, tab, ⟨A4, n4, c4⟩, X4, ⟨A5, n5, c5⟩, X5, ⟨none, 0, 0⟩, X6, -1, ⟨none, 0, 0⟩, X8, ⟨none, 0, 0⟩, X9⟩ : Mt) v8 (by have r := HX.out v8 HBb8.out; exact ⟨r.r0, r.r1, r.r2, r.r4, r.r5, row_nil, row_nil, row_nil⟩) (by have a := HSMALL.out; exact ⟨a.n0, a.n1, a.n2, a.n4, a.n5, Nat.zero_le _, Nat.zero_le _, Nat.zero_le _, a.l0, a.l1, a.l2, fun i hi => absurd hi (Nat.not_lt_zero i), fun i hi => absurd hi (Nat.not_lt_zero i), fun i hi => absurd hi (Nat.not_lt_zero i)⟩) (by have a := HFIT.out; exact ⟨a.n0, a.l0, a.n1, a.l1, a.na, a.l2, a.tab, a.n4, a.l4, a.n5, a.l5, Nat.zero_le _, fun i hi => absurd hi (Nat.not_lt_zero i), .inl rfl, Nat.zero_le _, fun i hi => absurd hi (Nat.not_lt_zero i), Nat.zero_le _, fun i hi => absurd hi (Nat.not_lt_zero i)⟩))
  unfold Mt.cells Sv.v at hT9
  dsimp only at hT9
  have x0 : v8.cell? ⟨b9, 0, none⟩ = some (.slice A0 n0 c0) := (HC9.out v8 HUb8.out).cell 0
  have x1 : v8.cell? ⟨b9, 1, none⟩ = some (.slice A1 n1 c1) := (HC9.out v8 HUb8.out).cell 1
  have x2 : v8.cell? ⟨b9, 2, none⟩ = some (.slice A2 n2 c2) := (HC9.out v8 HUb8.out).cell 2
  have x3 : v8.cell? ⟨b9, 3, none⟩ = some (.int .i64 tab) := (HC9.out v8 HUb8.out).cell 3
  have x4 : v8.cell? ⟨b9, 4, none⟩ = some (.slice A4 n4 c4) := (HC9.out v8 HUb8.out).cell 4
  have x5 : v8.cell? ⟨b9, 5, none⟩ = some (.slice A5 n5 c5) := (HC9.out v8 HUb8.out).cell 5
  have x6 : v8.cell? ⟨b9, 6, none⟩ = some (.slice none 0 0) := (HC9.out v8 HUb8.out).cell 6
  have x7 : v8.cell? ⟨b9, 7, none⟩ = some (.int .i64 (-1)) := (HC9.out v8 HUb8.out).cell 7
  have x8 : v8.cell? ⟨b9, 8, none⟩ = some (.slice none 0 0) := (HC9.out v8 HUb8.out).cell 8
  have x9 : v8.cell? ⟨b9, 9, none⟩ = some (.slice none 0 0) := (HC9.out v8 HUb8.out).cell 9
  go_upto_region 14 with (first
    | (go_at_call 9; (with_reducible refine hT9.out.mono ?_); rintro e u9 ⟨hb, g9, rfl, hF⟩
       have HF9 := Lib.hid hF
       have HBa9 := Lib.hid (HBb8.out.trans (hb.mono HBb8.out.size))
       have HUa9 := Lib.hid (HUb8.out.trans (hb.mono HUb8.out.size))
       clear hb hF)
    | (go_at_call 22; (with_reducible refine HF9.out.mono ?_); rintro e v9 ⟨rfl, hb⟩
       have HBb9 := Lib.hid (HBa9.out.trans (hb.mono HBa9.out.size))
       have HUb9 := Lib.hid (HUa9.out.trans (hb.mono HUa9.out.size))
       clear hb))
  clear x0 x1 x2 x3 x4 x5 x6 x7 x8 x9
  go_wp2
  go_ret
  exact ⟨rfl, HBb9.out⟩
end Go.Proofs.Ytackompihengfaa
