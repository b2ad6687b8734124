/- closed facts of the row of instrApart, one by one -/
import Derived.Test.YtggfaalodojjkaaGreatDoorX7
import Derived.Test.YtggfaalodojjkaaGreatDoorX6
import Derived.WalkKit
import Derived.ProofKit
import Derived.OpenShut
import Derived.JoinedOf
namespace Go.Proofs.YtggfaalodojjkaaGreatDoor
open Go.ChangeShapes Go.WideShapes Go.ChangeAt Go.RowKit
theorem and_mk {a b : Bool} (h : a = true) (k : b = true) : (a && b) = true := by rw [h, k]; rfl
set_option maxRecDepth 100000 in
theorem instrApart_joined : joinedFacts Tryz.pinned.checked.prog 7 Tryz.f7 Rows.instrApartSpec Rows.instrApartRow = true := by
  unfold joinedFacts
  refine and_mk ?_ instrApart_k31
  refine and_mk ?_ instrApart_k30
  refine and_mk ?_ instrApart_k29
  refine and_mk ?_ instrApart_k28
  refine and_mk ?_ instrApart_k27
  refine and_mk ?_ instrApart_k26
  refine and_mk ?_ instrApart_k25
  refine and_mk ?_ instrApart_k24
  refine and_mk ?_ instrApart_k23
  refine and_mk ?_ instrApart_k22
  refine and_mk ?_ instrApart_k21
  refine and_mk ?_ instrApart_k20
  refine and_mk ?_ instrApart_k19
  refine and_mk ?_ instrApart_k18
  refine and_mk ?_ instrApart_k17
  refine and_mk ?_ instrApart_k16
  refine and_mk ?_ instrApart_k15
  refine and_mk ?_ instrApart_k14
  refine and_mk ?_ instrApart_k13
  refine and_mk ?_ instrApart_k12
  refine and_mk ?_ instrApart_k11
  refine and_mk ?_ instrApart_k10
  refine and_mk ?_ instrApart_k9
  refine and_mk ?_ instrApart_k8
  refine and_mk ?_ instrApart_k7
  refine and_mk ?_ instrApart_k6
  refine and_mk ?_ instrApart_k5
  refine and_mk ?_ instrApart_k4
  refine and_mk ?_ instrApart_k3
  refine and_mk ?_ instrApart_k2
  refine and_mk ?_ instrApart_k1
  exact instrApart_k0
end Go.Proofs.YtggfaalodojjkaaGreatDoor
