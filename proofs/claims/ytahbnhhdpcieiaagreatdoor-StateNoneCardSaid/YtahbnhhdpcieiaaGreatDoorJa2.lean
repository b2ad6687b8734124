/- closed facts of the row of stateNone, one by one -/
import Derived.Test.YtahbnhhdpcieiaaGreatDoorVl
import Derived.WalkKit
import Derived.ProofKit
import Derived.OpenShut
import Derived.JoinedOf
namespace Go.Proofs.YtahbnhhdpcieiaaGreatDoor
open Go.ChangeShapes Go.WideShapes Go.ChangeAt Go.RowKit
theorem stateNone_k9 : ((Rows.stateNoneRow.inPlace == Tryz.pinned.checked.prog.inPlace 6)) = true := by kernel_rfl
end Go.Proofs.YtahbnhhdpcieiaaGreatDoor
