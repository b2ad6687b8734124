/- closed facts of the row of stateNone, one by one -/
import Derived.Test.YtahbnhhdpcieiaaGreatDoorVl
import Derived.WalkKit
import Derived.ProofKit
import Derived.OpenShut
import Derived.JoinedOf
namespace Go.Proofs.YtahbnhhdpcieiaaGreatDoor
open Go.ChangeShapes Go.WideShapes Go.ChangeAt Go.RowKit
theorem stateNone_k4 : (namedTie Tryz.pinned.checked.prog Rows.stateNoneRow.named Rows.stateNoneSpec.vars) = true := by kernel_rfl
end Go.Proofs.YtahbnhhdpcieiaaGreatDoor
