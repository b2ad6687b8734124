/- closed facts of the row of instrFails, one by one -/
import Derived.Test.YtggfaalodojjkaaGreatDoorZ9
import Derived.WalkKit
import Derived.ProofKit
import Derived.OpenShut
import Derived.JoinedOf
namespace Go.Proofs.YtggfaalodojjkaaGreatDoor
open Go.ChangeShapes Go.WideShapes Go.ChangeAt Go.RowKit
theorem instrFails_k0 : (Rows.instrFailsRow.wf (OpenSpec.ofChange Rows.instrFailsSpec)) = true := by kernel_rfl
theorem instrFails_k1 : (laidOutB Tryz.pinned.checked.prog) = true := by kernel_rfl
theorem instrFails_k2 : (mapsRowed Tryz.pinned.checked.prog) = true := by kernel_rfl
theorem instrFails_k3 : (Tryz.f6.params.all (Tryz.pinned.checked.prog.readableRec ·)) = true := by kernel_rfl
theorem instrFails_k5 : ((Rows.instrFailsRow.stops == [])) = true := by kernel_rfl
theorem instrFails_k6 : ((Tryz.pinned.checked.prog.stops == [])) = true := by kernel_rfl
theorem instrFails_k7 : ((Rows.instrFailsRow.knobs == [])) = true := by kernel_rfl
theorem instrFails_k8 : ((Tryz.pinned.checked.prog.stopKnobs == [])) = true := by kernel_rfl
theorem instrFails_k13 : ((Rows.instrFailsRow.maps == (Tryz.f6.params.toList ++ Rows.instrFailsSpec.plain.varTypes Tryz.pinned.checked.prog).any (Tryz.pinned.checked.prog.mapsRec ·))) = true := by kernel_rfl
theorem instrFails_k14 : ((Rows.instrFailsRow.ifaces == (Tryz.f6.params.toList ++ Rows.instrFailsSpec.plain.varTypes Tryz.pinned.checked.prog).any (Tryz.pinned.checked.prog.ifacesRec ·))) = true := by kernel_rfl
theorem instrFails_k15 : ((Rows.instrFailsRow.mapsOut == Tryz.pinned.checked.prog.mapsAmong Tryz.f6.resultTypes.toList)) = true := by kernel_rfl
theorem instrFails_k16 : ((Rows.instrFailsRow.loops == (Tryz.f6.params.toList ++ Rows.instrFailsSpec.plain.varTypes Tryz.pinned.checked.prog).any (Tryz.pinned.checked.prog.loopsFrom ·))) = true := by kernel_rfl
theorem instrFails_k17 : ((Rows.instrFailsRow.wideKeys == (Tryz.f6.params.toList ++ Rows.instrFailsSpec.plain.varTypes Tryz.pinned.checked.prog ++ Tryz.f6.resultTypes.toList).any (Tryz.pinned.checked.prog.wideKeysFrom ·))) = true := by kernel_rfl
theorem instrFails_k18 : (Rows.instrFailsSpec.vars.all (Tryz.pinned.checked.prog.varReadable ·)) = true := by kernel_rfl
theorem instrFails_k19 : (Tryz.f6.resultTypes.all (fun t => Tryz.pinned.checked.prog.readableRec t && decide (t < Tryz.pinned.checked.prog.types.size))) = true := by kernel_rfl
theorem instrFails_k20 : ((Rows.instrFailsRow.ifacesOut == Tryz.f6.resultTypes.toList.any (Tryz.pinned.checked.prog.ifacesRec ·))) = true := by kernel_rfl
theorem instrFails_k21 : ((Rows.instrFailsRow.loopsOut == Tryz.f6.resultTypes.toList.any (Tryz.pinned.checked.prog.loopsFrom ·))) = true := by kernel_rfl
theorem instrFails_k22 : ((Rows.instrFailsRow.plainKeys == Tryz.pinned.checked.prog.plainKeys)) = true := by kernel_rfl
theorem instrFails_k23 : (Rows.instrFailsRow.shortTexts.isNone) = true := by kernel_rfl
theorem instrFails_k24 : (Tryz.pinned.checked.prog.stopsHeard) = true := by kernel_rfl
theorem instrFails_k25 : (Tryz.pinned.checked.prog.mayEnter) = true := by kernel_rfl
theorem instrFails_k26 : ((Rows.instrFailsRow.lifted == Tryz.pinned.checked.prog.liftsFinal)) = true := by kernel_rfl
theorem instrFails_k27 : ((Tryz.pinned.checked.prog.make == some Rows.instrFailsRow.make)) = true := by kernel_rfl
theorem instrFails_k28 : ((Rows.instrFailsRow.kinds == (if Rows.instrFailsRow.domain.isEmpty then [] else Tryz.f6.params.toList.map fun t => match Tryz.pinned.checked.prog.underlying t with | some (.int k) => some k | _ => none))) = true := by kernel_rfl
theorem instrFails_k29 : ((Rows.instrFailsRow.pinned == Rows.instrFailsRow.pinnedBy)) = true := by kernel_rfl
theorem instrFails_k30 : ((Rows.instrFailsRow.veiled == (Tryz.f6.params.toList ++ Rows.instrFailsSpec.plain.varTypes Tryz.pinned.checked.prog ++ Tryz.f6.resultTypes.toList).any (Tryz.pinned.checked.prog.veiledRec ·))) = true := by kernel_rfl
theorem instrFails_k31 : (Rows.instrFailsRow.veiledFits Tryz.pinned.checked.prog Tryz.f6.params.toList (Tryz.f6.params.toList ++ Rows.instrFailsSpec.plain.varTypes Tryz.pinned.checked.prog ++ Tryz.f6.resultTypes.toList)) = true := by kernel_rfl
end Go.Proofs.YtggfaalodojjkaaGreatDoor
