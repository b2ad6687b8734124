/- closed facts of the row of stateNone, one by one -/
import Derived.Test.YtahbnhhdpcieiaaGreatDoorVl
import Derived.WalkKit
import Derived.ProofKit
import Derived.OpenShut
import Derived.JoinedOf
namespace Go.Proofs.YtahbnhhdpcieiaaGreatDoor
open Go.ChangeShapes Go.WideShapes Go.ChangeAt Go.RowKit
theorem stateNone_k11 : ((Rows.stateNoneRow.recurses == Tryz.pinned.checked.prog.recurses 6)) = true := by kernel_rfl
end Go.Proofs.YtahbnhhdpcieiaaGreatDoor
