/- closed facts of the row of instrApart, one by one -/
import Derived.Test.YtggfaalodojjkaaGreatDoorX5
import Derived.WalkKit
import Derived.ProofKit
import Derived.OpenShut
import Derived.JoinedOf
namespace Go.Proofs.YtggfaalodojjkaaGreatDoor
open Go.ChangeShapes Go.WideShapes Go.ChangeAt Go.RowKit
theorem instrApart_k4 : (namedTie Tryz.pinned.checked.prog Rows.instrApartRow.named Rows.instrApartSpec.vars) = true := by kernel_rfl
end Go.Proofs.YtggfaalodojjkaaGreatDoor
/- closed facts of the row of instrApart, one by one -/
namespace Go.Proofs.YtggfaalodojjkaaGreatDoor
open Go.ChangeShapes Go.WideShapes Go.ChangeAt Go.RowKit
theorem instrApart_k9 : ((Rows.instrApartRow.inPlace == Tryz.pinned.checked.prog.inPlace 7)) = true := by kernel_rfl
end Go.Proofs.YtggfaalodojjkaaGreatDoor
/- closed facts of the row of instrApart, one by one -/
namespace Go.Proofs.YtggfaalodojjkaaGreatDoor
open Go.ChangeShapes Go.WideShapes Go.ChangeAt Go.RowKit
theorem instrApart_k10 : ((Rows.instrApartRow.unfollowed == Tryz.pinned.checked.prog.unfollowed 7)) = true := by kernel_rfl
end Go.Proofs.YtggfaalodojjkaaGreatDoor
/- closed facts of the row of instrApart, one by one -/
namespace Go.Proofs.YtggfaalodojjkaaGreatDoor
open Go.ChangeShapes Go.WideShapes Go.ChangeAt Go.RowKit
theorem instrApart_k11 : ((Rows.instrApartRow.recurses == Tryz.pinned.checked.prog.recurses 7)) = true := by kernel_rfl
end Go.Proofs.YtggfaalodojjkaaGreatDoor
/- closed facts of the row of instrApart, one by one -/
namespace Go.Proofs.YtggfaalodojjkaaGreatDoor
open Go.ChangeShapes Go.WideShapes Go.ChangeAt Go.RowKit
theorem instrApart_k12 : ((Rows.instrApartRow.named == Tryz.pinned.checked.prog.varsNamed 7)) = true := by kernel_rfl
end Go.Proofs.YtggfaalodojjkaaGreatDoor
