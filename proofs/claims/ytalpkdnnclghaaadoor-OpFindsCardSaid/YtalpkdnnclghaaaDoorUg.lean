/-
  The condition of OpFinds' card.
-/
import Derived.Test.YtalpkdnnclghaaaDoorUf
import Derived.Test.YtalpkdnnclghaaaDoorUb
import Derived.Test.YtalpkdnnclghaaaDoorUc
import Derived.Test.YtalpkdnnclghaaaDoorUd
import Derived.Test.YtalpkdnnclghaaaDoorSb
namespace Go.Proofs.YtalpkdnnclghaaaDoor
open Go.ChangeShapes Go.WideShapes Go.ChangeAt Go.RowKit
def laidG : List (String × DataW Unit) := laidF
theorem tb_G {W : World} (h : laidMetH Tryd.prog laidG W) : Tb W ∧ Tab W 1 13 2 forL ∧ ∀ i, i < 23 → W.cell? ⟨0, i, none⟩ = some (.int .i64 (widL.getD i 0)) := ⟨tb_F h, for_F h, wid_F h⟩
theorem doorG_met (os : Os) (args : Array Value) : laidMetH Tryd.prog laidG ((World.doorLaid Tryd.prog 2000 os).forCall (fun _ _ => 0) ⟨#[], args, []⟩).memory := doorF_met os args
end Go.Proofs.YtalpkdnnclghaaaDoor
