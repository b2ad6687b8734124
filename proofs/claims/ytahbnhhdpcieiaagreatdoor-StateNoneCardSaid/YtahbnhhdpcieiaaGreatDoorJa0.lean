/- closed facts of the row of stateNone, one by one -/
import Derived.Test.YtahbnhhdpcieiaaGreatDoorVl
import Derived.WalkKit
import Derived.ProofKit
import Derived.OpenShut
import Derived.JoinedOf
namespace Go.Proofs.YtahbnhhdpcieiaaGreatDoor
open Go.ChangeShapes Go.WideShapes Go.ChangeAt Go.RowKit
theorem stateNone_k0 : (Rows.stateNoneRow.wf (OpenSpec.ofChange Rows.stateNoneSpec)) = true := by kernel_rfl
theorem stateNone_k1 : (laidOutB Tryz.pinned.checked.prog) = true := by kernel_rfl
theorem stateNone_k2 : (mapsRowed Tryz.pinned.checked.prog) = true := by kernel_rfl
theorem stateNone_k3 : (Tryz.f6.params.all (Tryz.pinned.checked.prog.readableRec ·)) = true := by kernel_rfl
theorem stateNone_k5 : ((Rows.stateNoneRow.stops == [])) = true := by kernel_rfl
theorem stateNone_k6 : ((Tryz.pinned.checked.prog.stops == [])) = true := by kernel_rfl
theorem stateNone_k7 : ((Rows.stateNoneRow.knobs == [])) = true := by kernel_rfl
theorem stateNone_k8 : ((Tryz.pinned.checked.prog.stopKnobs == [])) = true := by kernel_rfl
theorem stateNone_k13 : ((Rows.stateNoneRow.maps == (Tryz.f6.params.toList ++ Rows.stateNoneSpec.plain.varTypes Tryz.pinned.checked.prog).any (Tryz.pinned.checked.prog.mapsRec ·))) = true := by kernel_rfl
theorem stateNone_k14 : ((Rows.stateNoneRow.ifaces == (Tryz.f6.params.toList ++ Rows.stateNoneSpec.plain.varTypes Tryz.pinned.checked.prog).any (Tryz.pinned.checked.prog.ifacesRec ·))) = true := by kernel_rfl
theorem stateNone_k15 : ((Rows.stateNoneRow.mapsOut == Tryz.pinned.checked.prog.mapsAmong Tryz.f6.resultTypes.toList)) = true := by kernel_rfl
theorem stateNone_k16 : ((Rows.stateNoneRow.loops == (Tryz.f6.params.toList ++ Rows.stateNoneSpec.plain.varTypes Tryz.pinned.checked.prog).any (Tryz.pinned.checked.prog.loopsFrom ·))) = true := by kernel_rfl
theorem stateNone_k17 : ((Rows.stateNoneRow.wideKeys == (Tryz.f6.params.toList ++ Rows.stateNoneSpec.plain.varTypes Tryz.pinned.checked.prog ++ Tryz.f6.resultTypes.toList).any (Tryz.pinned.checked.prog.wideKeysFrom ·))) = true := by kernel_rfl
theorem stateNone_k18 : (Rows.stateNoneSpec.vars.all (Tryz.pinned.checked.prog.varReadable ·)) = true := by kernel_rfl
theorem stateNone_k19 : (Tryz.f6.resultTypes.all (fun t => Tryz.pinned.checked.prog.readableRec t && decide (t < Tryz.pinned.checked.prog.types.size))) = true := by kernel_rfl
theorem stateNone_k20 : ((Rows.stateNoneRow.ifacesOut == Tryz.f6.resultTypes.toList.any (Tryz.pinned.checked.prog.ifacesRec ·))) = true := by kernel_rfl
theorem stateNone_k21 : ((Rows.stateNoneRow.loopsOut == Tryz.f6.resultTypes.toList.any (Tryz.pinned.checked.prog.loopsFrom ·))) = true := by kernel_rfl
theorem stateNone_k22 : ((Rows.stateNoneRow.plainKeys == Tryz.pinned.checked.prog.plainKeys)) = true := by kernel_rfl
theorem stateNone_k23 : (Rows.stateNoneRow.shortTexts.isNone) = true := by kernel_rfl
theorem stateNone_k24 : (Tryz.pinned.checked.prog.stopsHeard) = true := by kernel_rfl
theorem stateNone_k25 : (Tryz.pinned.checked.prog.mayEnter) = true := by kernel_rfl
theorem stateNone_k26 : ((Rows.stateNoneRow.lifted == Tryz.pinned.checked.prog.liftsFinal)) = true := by kernel_rfl
theorem stateNone_k27 : ((Tryz.pinned.checked.prog.make == some Rows.stateNoneRow.make)) = true := by kernel_rfl
theorem stateNone_k28 : ((Rows.stateNoneRow.kinds == (if Rows.stateNoneRow.domain.isEmpty then [] else Tryz.f6.params.toList.map fun t => match Tryz.pinned.checked.prog.underlying t with | some (.int k) => some k | _ => none))) = true := by kernel_rfl
theorem stateNone_k29 : ((Rows.stateNoneRow.pinned == Rows.stateNoneRow.pinnedBy)) = true := by kernel_rfl
theorem stateNone_k30 : ((Rows.stateNoneRow.veiled == (Tryz.f6.params.toList ++ Rows.stateNoneSpec.plain.varTypes Tryz.pinned.checked.prog ++ Tryz.f6.resultTypes.toList).any (Tryz.pinned.checked.prog.veiledRec ·))) = true := by kernel_rfl
theorem stateNone_k31 : (Rows.stateNoneRow.veiledFits Tryz.pinned.checked.prog Tryz.f6.params.toList (Tryz.f6.params.toList ++ Rows.stateNoneSpec.plain.varTypes Tryz.pinned.checked.prog ++ Tryz.f6.resultTypes.toList)) = true := by kernel_rfl
end Go.Proofs.YtahbnhhdpcieiaaGreatDoor
