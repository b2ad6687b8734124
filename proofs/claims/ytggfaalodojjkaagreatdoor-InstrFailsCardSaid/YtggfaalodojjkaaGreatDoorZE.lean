/- closed facts of the row of instrFails, one by one -/
import Derived.Test.YtggfaalodojjkaaGreatDoorZ9
import Derived.WalkKit
import Derived.ProofKit
import Derived.OpenShut
import Derived.JoinedOf
namespace Go.Proofs.YtggfaalodojjkaaGreatDoor
open Go.ChangeShapes Go.WideShapes Go.ChangeAt Go.RowKit
theorem instrFails_k4 : (namedTie Tryz.pinned.checked.prog Rows.instrFailsRow.named Rows.instrFailsSpec.vars) = true := by kernel_rfl
end Go.Proofs.YtggfaalodojjkaaGreatDoor
/- closed facts of the row of instrFails, one by one -/
namespace Go.Proofs.YtggfaalodojjkaaGreatDoor
open Go.ChangeShapes Go.WideShapes Go.ChangeAt Go.RowKit
theorem instrFails_k9 : ((Rows.instrFailsRow.inPlace == Tryz.pinned.checked.prog.inPlace 6)) = true := by kernel_rfl
end Go.Proofs.YtggfaalodojjkaaGreatDoor
/- closed facts of the row of instrFails, one by one -/
namespace Go.Proofs.YtggfaalodojjkaaGreatDoor
open Go.ChangeShapes Go.WideShapes Go.ChangeAt Go.RowKit
theorem instrFails_k10 : ((Rows.instrFailsRow.unfollowed == Tryz.pinned.checked.prog.unfollowed 6)) = true := by kernel_rfl
end Go.Proofs.YtggfaalodojjkaaGreatDoor
/- closed facts of the row of instrFails, one by one -/
namespace Go.Proofs.YtggfaalodojjkaaGreatDoor
open Go.ChangeShapes Go.WideShapes Go.ChangeAt Go.RowKit
theorem instrFails_k11 : ((Rows.instrFailsRow.recurses == Tryz.pinned.checked.prog.recurses 6)) = true := by kernel_rfl
end Go.Proofs.YtggfaalodojjkaaGreatDoor
/- closed facts of the row of instrFails, one by one -/
namespace Go.Proofs.YtggfaalodojjkaaGreatDoor
open Go.ChangeShapes Go.WideShapes Go.ChangeAt Go.RowKit
theorem instrFails_k12 : ((Rows.instrFailsRow.named == Tryz.pinned.checked.prog.varsNamed 6)) = true := by kernel_rfl
end Go.Proofs.YtggfaalodojjkaaGreatDoor
