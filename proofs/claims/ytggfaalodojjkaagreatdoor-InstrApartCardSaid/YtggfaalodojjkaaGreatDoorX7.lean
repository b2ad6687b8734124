/- closed facts of the row of instrApart, one by one -/
import Derived.Test.YtggfaalodojjkaaGreatDoorX5
import Derived.WalkKit
import Derived.ProofKit
import Derived.OpenShut
import Derived.JoinedOf
namespace Go.Proofs.YtggfaalodojjkaaGreatDoor
open Go.ChangeShapes Go.WideShapes Go.ChangeAt Go.RowKit
theorem instrApart_k0 : (Rows.instrApartRow.wf (OpenSpec.ofChange Rows.instrApartSpec)) = true := by kernel_rfl
theorem instrApart_k1 : (laidOutB Tryz.pinned.checked.prog) = true := by kernel_rfl
theorem instrApart_k2 : (mapsRowed Tryz.pinned.checked.prog) = true := by kernel_rfl
theorem instrApart_k3 : (Tryz.f7.params.all (Tryz.pinned.checked.prog.readableRec ·)) = true := by kernel_rfl
theorem instrApart_k5 : ((Rows.instrApartRow.stops == [])) = true := by kernel_rfl
theorem instrApart_k6 : ((Tryz.pinned.checked.prog.stops == [])) = true := by kernel_rfl
theorem instrApart_k7 : ((Rows.instrApartRow.knobs == [])) = true := by kernel_rfl
theorem instrApart_k8 : ((Tryz.pinned.checked.prog.stopKnobs == [])) = true := by kernel_rfl
theorem instrApart_k13 : ((Rows.instrApartRow.maps == (Tryz.f7.params.toList ++ Rows.instrApartSpec.plain.varTypes Tryz.pinned.checked.prog).any (Tryz.pinned.checked.prog.mapsRec ·))) = true := by kernel_rfl
theorem instrApart_k14 : ((Rows.instrApartRow.ifaces == (Tryz.f7.params.toList ++ Rows.instrApartSpec.plain.varTypes Tryz.pinned.checked.prog).any (Tryz.pinned.checked.prog.ifacesRec ·))) = true := by kernel_rfl
theorem instrApart_k15 : ((Rows.instrApartRow.mapsOut == Tryz.pinned.checked.prog.mapsAmong Tryz.f7.resultTypes.toList)) = true := by kernel_rfl
theorem instrApart_k16 : ((Rows.instrApartRow.loops == (Tryz.f7.params.toList ++ Rows.instrApartSpec.plain.varTypes Tryz.pinned.checked.prog).any (Tryz.pinned.checked.prog.loopsFrom ·))) = true := by kernel_rfl
theorem instrApart_k17 : ((Rows.instrApartRow.wideKeys == (Tryz.f7.params.toList ++ Rows.instrApartSpec.plain.varTypes Tryz.pinned.checked.prog ++ Tryz.f7.resultTypes.toList).any (Tryz.pinned.checked.prog.wideKeysFrom ·))) = true := by kernel_rfl
theorem instrApart_k18 : (Rows.instrApartSpec.vars.all (Tryz.pinned.checked.prog.varReadable ·)) = true := by kernel_rfl
theorem instrApart_k19 : (Tryz.f7.resultTypes.all (fun t => Tryz.pinned.checked.prog.readableRec t && decide (t < Tryz.pinned.checked.prog.types.size))) = true := by kernel_rfl
theorem instrApart_k20 : ((Rows.instrApartRow.ifacesOut == Tryz.f7.resultTypes.toList.any (Tryz.pinned.checked.prog.ifacesRec ·))) = true := by kernel_rfl
theorem instrApart_k21 : ((Rows.instrApartRow.loopsOut == Tryz.f7.resultTypes.toList.any (Tryz.pinned.checked.prog.loopsFrom ·))) = true := by kernel_rfl
theorem instrApart_k22 : ((Rows.instrApartRow.plainKeys == Tryz.pinned.checked.prog.plainKeys)) = true := by kernel_rfl
theorem instrApart_k23 : (Rows.instrApartRow.shortTexts.isNone) = true := by kernel_rfl
theorem instrApart_k24 : (Tryz.pinned.checked.prog.stopsHeard) = true := by kernel_rfl
theorem instrApart_k25 : (Tryz.pinned.checked.prog.mayEnter) = true := by kernel_rfl
theorem instrApart_k26 : ((Rows.instrApartRow.lifted == Tryz.pinned.checked.prog.liftsFinal)) = true := by kernel_rfl
theorem instrApart_k27 : ((Tryz.pinned.checked.prog.make == some Rows.instrApartRow.make)) = true := by kernel_rfl
theorem instrApart_k28 : ((Rows.instrApartRow.kinds == (if Rows.instrApartRow.domain.isEmpty then [] else Tryz.f7.params.toList.map fun t => match Tryz.pinned.checked.prog.underlying t with | some (.int k) => some k | _ => none))) = true := by kernel_rfl
theorem instrApart_k29 : ((Rows.instrApartRow.pinned == Rows.instrApartRow.pinnedBy)) = true := by kernel_rfl
theorem instrApart_k30 : ((Rows.instrApartRow.veiled == (Tryz.f7.params.toList ++ Rows.instrApartSpec.plain.varTypes Tryz.pinned.checked.prog ++ Tryz.f7.resultTypes.toList).any (Tryz.pinned.checked.prog.veiledRec ·))) = true := by kernel_rfl
theorem instrApart_k31 : (Rows.instrApartRow.veiledFits Tryz.pinned.checked.prog Tryz.f7.params.toList (Tryz.f7.params.toList ++ Rows.instrApartSpec.plain.varTypes Tryz.pinned.checked.prog ++ Tryz.f7.resultTypes.toList)) = true := by kernel_rfl
end Go.Proofs.YtggfaalodojjkaaGreatDoor
