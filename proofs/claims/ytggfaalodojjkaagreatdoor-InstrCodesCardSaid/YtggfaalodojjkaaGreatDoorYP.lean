/-
  Texts of YtggfaalodojjkaaGreatDoorYP.
-/
import Derived.Test.YtggfaalodojjkaaGreatDoorYK
import Derived.Test.YtggfaalodojjkaaGreatDoorYB
import Derived.Test.YtggfaalodojjkaaGreatDoorY2
import Derived.WalkKit
import Derived.ProofKit
import Derived.OpenShut
import Derived.JoinedOf
namespace Go.Proofs.YtggfaalodojjkaaGreatDoor
open Go.ChangeShapes Go.WideShapes Go.ChangeAt Go.RowKit Go.Deep
set_option linter.unusedVariables false
set_option linter.unusedSimpArgs false
def laidG : List (String × DataW Unit) := [("math/bits.deBruijn32tab", Rows.laid_math_bits_deBruijn32tab), ("math/bits.deBruijn64tab", Rows.laid_math_bits_deBruijn64tab), ("internal/strconv.uint64pow10", Rows.laid_internal_strconv_uint64pow10), ("unicode/utf8.acceptRanges", Rows.laid_unicode_utf8_acceptRanges), ("strconv.ErrRange", Rows.laid_strconv_ErrRange), ("strconv.ErrSyntax", Rows.laid_strconv_ErrSyntax), ("unicode.White_Space", Rows.laid_unicode_White_Space), ("strings.asciiSpace", Rows.laid_strings_asciiSpace), ("grommet/op.foreign", Rows.laid_grommet_op_foreign), ("unicode/utf8.first", Rows.laid_unicode_utf8_first)]
theorem laidG_met (os : Os) (args : Array Value) : laidMetH Tryz.prog laidG ((World.laidAll Tryz.prog os laidG).forCall (fun _ _ => 0) ⟨#[], args, []⟩).memory := by
  rw [MakeChecks.laidMetH_plain _ _ _ (by kernel_rfl)]; exact laidMet_laidAll _ (by kernel_rfl) (by kernel_rfl)
theorem lwG_of {w : World} (hs : w.ShapedOpen Tryz.prog) (h : laidMetH Tryz.prog laidG w) : Lw w ∧ Tab w 1 13 2 forL := by
  rw [MakeChecks.laidMetH_plain _ _ _ (by kernel_rfl)] at h
  have htb : Tb w := tb_of_reads (Lib.laidMet.reads h (by unfold laidG; exact List.mem_cons_of_mem _ (List.mem_cons_of_mem _ (List.mem_cons_of_mem _ (List.mem_cons_of_mem _ (List.mem_cons_of_mem _ (List.mem_cons_of_mem _ (List.mem_cons_of_mem _ (List.mem_cons_self ..)))))))))
  have hfo := for_of (Lib.laidMet.reads h (by unfold laidG; exact List.mem_cons_of_mem _ (List.mem_cons_of_mem _ (List.mem_cons_of_mem _ (List.mem_cons_of_mem _ (List.mem_cons_of_mem _ (List.mem_cons_of_mem _ (List.mem_cons_of_mem _ (List.mem_cons_of_mem _ (List.mem_cons_self ..))))))))))
  have hdb := db_of_reads (Lib.laidMet.reads h (by unfold laidG; exact List.mem_cons_of_mem _ (List.mem_cons_self ..)))
  have h2 := laidMet.tail (laidMet.tail h)
  rw [tabZ] at h2
  have h4 := laidMet.tail (laidMet.tail h2)
  have h5 := laidMet.tail h4
  obtain ⟨a, s9, hv, _⟩ := laid_sentinel h5 (g := 7) (ti := 122) (tp := 261) (te := 263) (ts := 9) (by kernel_rfl) (by kernel_rfl) Tryz.underlying122 rowErr Tryz.underlying261 Tryz.underlying263 rfl rfl Tryz.underlying9 (by kernel_rfl) (by kernel_rfl)
  have hc : w.cell? ⟨7, 0, none⟩ = some (.iface 261 (.pointer (some a))) := by simpa using World.var?_cell (show Tryz.prog.globalNamed "strconv.ErrSyntax" = some 7 by kernel_rfl) hv 0
  obtain ⟨a', s9', hv', _⟩ := laid_sentinel h4 (g := 8) (ti := 122) (tp := 261) (te := 263) (ts := 9) (by kernel_rfl) (by kernel_rfl) Tryz.underlying122 rowErr Tryz.underlying261 Tryz.underlying263 rfl rfl Tryz.underlying9 (by kernel_rfl) (by kernel_rfl)
  have hc' : w.cell? ⟨8, 0, none⟩ = some (.iface 261 (.pointer (some a'))) := by simpa using World.var?_cell (show Tryz.prog.globalNamed "strconv.ErrRange" = some 8 by kernel_rfl) hv' 0
  obtain ⟨m, hm⟩ := Go.Proofs.cell_of_shapedOpen_int (zero := #[.int .i64 0]) (t := 3) (g := 3) hs (of_decide_eq_true (by kernel_rfl)) (by kernel_rfl) rfl (by kernel_rfl) (by kernel_rfl) Tryz.underlying3
  exact ⟨⟨⟨htb, htb.size⟩, ⟨lt_of_cell hm, m, hm⟩, Lib.tabIs_of_head (g := 4) (t := 235) (e := 22) (n := 20) (by kernel_rfl) (by kernel_rfl) Tryz.underlying235 Tryz.underlying22 (by kernel_rfl) (by kernel_rfl) h2, ⟨lt_of_cell hc, 261, _, hc⟩, ⟨lt_of_cell hc', 261, _, hc'⟩, ⟨lt_of_cell hdb, hdb⟩⟩, hfo⟩
end Go.Proofs.YtggfaalodojjkaaGreatDoor
namespace Go.Proofs.YtggfaalodojjkaaGreatDoor
open Go.ChangeShapes Go.WideShapes Go.ChangeAt Go.RowKit
theorem instrCodes_k0 : (Rows.instrCodesRow.wf (OpenSpec.ofChange Rows.instrCodesSpec)) = true := by kernel_rfl
theorem instrCodes_k1 : (laidOutB Tryz.pinned.checked.prog) = true := by kernel_rfl
theorem instrCodes_k2 : (mapsRowed Tryz.pinned.checked.prog) = true := by kernel_rfl
theorem instrCodes_k3 : (Tryz.f3.params.all (Tryz.pinned.checked.prog.readableRec ·)) = true := by kernel_rfl
theorem instrCodes_k5 : ((Rows.instrCodesRow.stops == [])) = true := by kernel_rfl
theorem instrCodes_k6 : ((Tryz.pinned.checked.prog.stops == [])) = true := by kernel_rfl
theorem instrCodes_k7 : ((Rows.instrCodesRow.knobs == [])) = true := by kernel_rfl
theorem instrCodes_k8 : ((Tryz.pinned.checked.prog.stopKnobs == [])) = true := by kernel_rfl
theorem instrCodes_k13 : ((Rows.instrCodesRow.maps == (Tryz.f3.params.toList ++ Rows.instrCodesSpec.plain.varTypes Tryz.pinned.checked.prog).any (Tryz.pinned.checked.prog.mapsRec ·))) = true := by kernel_rfl
theorem instrCodes_k14 : ((Rows.instrCodesRow.ifaces == (Tryz.f3.params.toList ++ Rows.instrCodesSpec.plain.varTypes Tryz.pinned.checked.prog).any (Tryz.pinned.checked.prog.ifacesRec ·))) = true := by kernel_rfl
theorem instrCodes_k15 : ((Rows.instrCodesRow.mapsOut == Tryz.pinned.checked.prog.mapsAmong Tryz.f3.resultTypes.toList)) = true := by kernel_rfl
theorem instrCodes_k16 : ((Rows.instrCodesRow.loops == (Tryz.f3.params.toList ++ Rows.instrCodesSpec.plain.varTypes Tryz.pinned.checked.prog).any (Tryz.pinned.checked.prog.loopsFrom ·))) = true := by kernel_rfl
theorem instrCodes_k17 : ((Rows.instrCodesRow.wideKeys == (Tryz.f3.params.toList ++ Rows.instrCodesSpec.plain.varTypes Tryz.pinned.checked.prog ++ Tryz.f3.resultTypes.toList).any (Tryz.pinned.checked.prog.wideKeysFrom ·))) = true := by kernel_rfl
theorem instrCodes_k18 : (Rows.instrCodesSpec.vars.all (Tryz.pinned.checked.prog.varReadable ·)) = true := by kernel_rfl
theorem instrCodes_k19 : (Tryz.f3.resultTypes.all (fun t => Tryz.pinned.checked.prog.readableRec t && decide (t < Tryz.pinned.checked.prog.types.size))) = true := by kernel_rfl
theorem instrCodes_k20 : ((Rows.instrCodesRow.ifacesOut == Tryz.f3.resultTypes.toList.any (Tryz.pinned.checked.prog.ifacesRec ·))) = true := by kernel_rfl
theorem instrCodes_k21 : ((Rows.instrCodesRow.loopsOut == Tryz.f3.resultTypes.toList.any (Tryz.pinned.checked.prog.loopsFrom ·))) = true := by kernel_rfl
theorem instrCodes_k22 : ((Rows.instrCodesRow.plainKeys == Tryz.pinned.checked.prog.plainKeys)) = true := by kernel_rfl
theorem instrCodes_k23 : (Rows.instrCodesRow.shortTexts.isNone) = true := by kernel_rfl
theorem instrCodes_k24 : (Tryz.pinned.checked.prog.stopsHeard) = true := by kernel_rfl
theorem instrCodes_k25 : (Tryz.pinned.checked.prog.mayEnter) = true := by kernel_rfl
theorem instrCodes_k26 : ((Rows.instrCodesRow.lifted == Tryz.pinned.checked.prog.liftsFinal)) = true := by kernel_rfl
theorem instrCodes_k27 : ((Tryz.pinned.checked.prog.make == some Rows.instrCodesRow.make)) = true := by kernel_rfl
theorem instrCodes_k28 : ((Rows.instrCodesRow.kinds == (if Rows.instrCodesRow.domain.isEmpty then [] else Tryz.f3.params.toList.map fun t => match Tryz.pinned.checked.prog.underlying t with | some (.int k) => some k | _ => none))) = true := by kernel_rfl
theorem instrCodes_k29 : ((Rows.instrCodesRow.pinned == Rows.instrCodesRow.pinnedBy)) = true := by kernel_rfl
theorem instrCodes_k30 : ((Rows.instrCodesRow.veiled == (Tryz.f3.params.toList ++ Rows.instrCodesSpec.plain.varTypes Tryz.pinned.checked.prog ++ Tryz.f3.resultTypes.toList).any (Tryz.pinned.checked.prog.veiledRec ·))) = true := by kernel_rfl
theorem instrCodes_k31 : (Rows.instrCodesRow.veiledFits Tryz.pinned.checked.prog Tryz.f3.params.toList (Tryz.f3.params.toList ++ Rows.instrCodesSpec.plain.varTypes Tryz.pinned.checked.prog ++ Tryz.f3.resultTypes.toList)) = true := by kernel_rfl
end Go.Proofs.YtggfaalodojjkaaGreatDoor
namespace Go.Proofs.YtggfaalodojjkaaGreatDoor
open Go.ChangeShapes Go.WideShapes Go.ChangeAt Go.RowKit
theorem instrCodes_k4 : (namedTie Tryz.pinned.checked.prog Rows.instrCodesRow.named Rows.instrCodesSpec.vars) = true := by kernel_rfl
end Go.Proofs.YtggfaalodojjkaaGreatDoor
namespace Go.Proofs.YtggfaalodojjkaaGreatDoor
open Go.ChangeShapes Go.WideShapes Go.ChangeAt Go.RowKit
theorem instrCodes_k9 : ((Rows.instrCodesRow.inPlace == Tryz.pinned.checked.prog.inPlace 3)) = true := by kernel_rfl
end Go.Proofs.YtggfaalodojjkaaGreatDoor
namespace Go.Proofs.YtggfaalodojjkaaGreatDoor
open Go.ChangeShapes Go.WideShapes Go.ChangeAt Go.RowKit
theorem instrCodes_k10 : ((Rows.instrCodesRow.unfollowed == Tryz.pinned.checked.prog.unfollowed 3)) = true := by kernel_rfl
end Go.Proofs.YtggfaalodojjkaaGreatDoor
namespace Go.Proofs.YtggfaalodojjkaaGreatDoor
open Go.ChangeShapes Go.WideShapes Go.ChangeAt Go.RowKit
theorem instrCodes_k11 : ((Rows.instrCodesRow.recurses == Tryz.pinned.checked.prog.recurses 3)) = true := by kernel_rfl
end Go.Proofs.YtggfaalodojjkaaGreatDoor
namespace Go.Proofs.YtggfaalodojjkaaGreatDoor
open Go.ChangeShapes Go.WideShapes Go.ChangeAt Go.RowKit
theorem instrCodes_k12 : ((Rows.instrCodesRow.named == Tryz.pinned.checked.prog.varsNamed 3)) = true := by kernel_rfl
end Go.Proofs.YtggfaalodojjkaaGreatDoor
namespace Go.Proofs.YtggfaalodojjkaaGreatDoor
open Go.ChangeShapes Go.WideShapes Go.ChangeAt Go.RowKit
theorem and_mk {a b : Bool} (h : a = true) (k : b = true) : (a && b) = true := by rw [h, k]; rfl
set_option maxRecDepth 100000 in
theorem instrCodes_joined : joinedFacts Tryz.pinned.checked.prog 3 Tryz.f3 Rows.instrCodesSpec Rows.instrCodesRow = true := by
  unfold joinedFacts
  refine and_mk ?_ instrCodes_k31
  refine and_mk ?_ instrCodes_k30
  refine and_mk ?_ instrCodes_k29
  refine and_mk ?_ instrCodes_k28
  refine and_mk ?_ instrCodes_k27
  refine and_mk ?_ instrCodes_k26
  refine and_mk ?_ instrCodes_k25
  refine and_mk ?_ instrCodes_k24
  refine and_mk ?_ instrCodes_k23
  refine and_mk ?_ instrCodes_k22
  refine and_mk ?_ instrCodes_k21
  refine and_mk ?_ instrCodes_k20
  refine and_mk ?_ instrCodes_k19
  refine and_mk ?_ instrCodes_k18
  refine and_mk ?_ instrCodes_k17
  refine and_mk ?_ instrCodes_k16
  refine and_mk ?_ instrCodes_k15
  refine and_mk ?_ instrCodes_k14
  refine and_mk ?_ instrCodes_k13
  refine and_mk ?_ instrCodes_k12
  refine and_mk ?_ instrCodes_k11
  refine and_mk ?_ instrCodes_k10
  refine and_mk ?_ instrCodes_k9
  refine and_mk ?_ instrCodes_k8
  refine and_mk ?_ instrCodes_k7
  refine and_mk ?_ instrCodes_k6
  refine and_mk ?_ instrCodes_k5
  refine and_mk ?_ instrCodes_k4
  refine and_mk ?_ instrCodes_k3
  refine and_mk ?_ instrCodes_k2
  refine and_mk ?_ instrCodes_k1
  exact instrCodes_k0
end Go.Proofs.YtggfaalodojjkaaGreatDoor
