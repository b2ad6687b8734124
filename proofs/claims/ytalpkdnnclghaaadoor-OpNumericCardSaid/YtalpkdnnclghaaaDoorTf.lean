/-
  The condition of OpNumeric's card.
-/
import Derived.Test.YtalpkdnnclghaaaDoorTe
namespace Go.Proofs.YtalpkdnnclghaaaDoor
open Go.ChangeShapes Go.WideShapes Go.ChangeAt Go.RowKit
def laidM : List (String × DataW Unit) := laidN
theorem tb_M {W : World} (h : laidMetH Tryd.prog laidM W) : Tb W ∧ Tab W 2 8 5 numL := ⟨tb_N h, num_N h⟩
theorem doorM_met (os : Os) (args : Array Value) : laidMetH Tryd.prog laidM ((World.doorLaid Tryd.prog 2000 os).forCall (fun _ _ => 0) ⟨#[], args, []⟩).memory := doorN_met os args
end Go.Proofs.YtalpkdnnclghaaaDoor
