/- closed facts of the row of stateNone, one by one -/
import Derived.Test.YtahbnhhdpcieiaaGreatDoorJa0
import Derived.Test.YtahbnhhdpcieiaaGreatDoorJa1
import Derived.Test.YtahbnhhdpcieiaaGreatDoorJa2
import Derived.Test.YtahbnhhdpcieiaaGreatDoorJa3
import Derived.Test.YtahbnhhdpcieiaaGreatDoorJa4
import Derived.Test.YtahbnhhdpcieiaaGreatDoorJa5
import Derived.WalkKit
import Derived.ProofKit
import Derived.OpenShut
import Derived.JoinedOf
namespace Go.Proofs.YtahbnhhdpcieiaaGreatDoor
open Go.ChangeShapes Go.WideShapes Go.ChangeAt Go.RowKit
theorem and_mk {a b : Bool} (h : a = true) (k : b = true) : (a && b) = true := by rw [h, k]; rfl
set_option maxRecDepth 100000 in
theorem stateNone_joined : joinedFacts Tryz.pinned.checked.prog 6 Tryz.f6 Rows.stateNoneSpec Rows.stateNoneRow = true := by
  unfold joinedFacts
  refine and_mk ?_ stateNone_k31
  refine and_mk ?_ stateNone_k30
  refine and_mk ?_ stateNone_k29
  refine and_mk ?_ stateNone_k28
  refine and_mk ?_ stateNone_k27
  refine and_mk ?_ stateNone_k26
  refine and_mk ?_ stateNone_k25
  refine and_mk ?_ stateNone_k24
  refine and_mk ?_ stateNone_k23
  refine and_mk ?_ stateNone_k22
  refine and_mk ?_ stateNone_k21
  refine and_mk ?_ stateNone_k20
  refine and_mk ?_ stateNone_k19
  refine and_mk ?_ stateNone_k18
  refine and_mk ?_ stateNone_k17
  refine and_mk ?_ stateNone_k16
  refine and_mk ?_ stateNone_k15
  refine and_mk ?_ stateNone_k14
  refine and_mk ?_ stateNone_k13
  refine and_mk ?_ stateNone_k12
  refine and_mk ?_ stateNone_k11
  refine and_mk ?_ stateNone_k10
  refine and_mk ?_ stateNone_k9
  refine and_mk ?_ stateNone_k8
  refine and_mk ?_ stateNone_k7
  refine and_mk ?_ stateNone_k6
  refine and_mk ?_ stateNone_k5
  refine and_mk ?_ stateNone_k4
  refine and_mk ?_ stateNone_k3
  refine and_mk ?_ stateNone_k2
  refine and_mk ?_ stateNone_k1
  exact stateNone_k0
end Go.Proofs.YtahbnhhdpcieiaaGreatDoor
