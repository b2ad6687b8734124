/-
  What every card of op wants: the program's knob, its layout, and what the condition on the tables gives a walk.
-/
import Derived.Test.YtalpkdnnclghaaaDoorOe
import Derived.Test.YtalpkdnnclghaaaDoorTie
import Derived.ProofKit
import Derived.LaidMore
import Derived.OpenShut
import Derived.Stop.Joined
import Derived.ChangeOld
import Derived.Below
import Derived.Lib.LaidU8
import Derived.SevenTiedAt
namespace Go.Proofs.YtalpkdnnclghaaaDoor
open Go.ChangeShapes Go.WideShapes Go.ChangeAt Go.RowKit
theorem Tryd.own : ownKnob Tryd.prog.godebug = none := by kernel_rfl
theorem Tryd.laidOut : laidOutB Tryd.prog = true := by kernel_rfl
theorem Tryd.gSp : Tryd.prog.globalNamed "strings.asciiSpace" = some 3 := by kernel_rfl
theorem Tryd.tSp : (Tryd.prog.globals[3]?).map (·.type) = some 124 := by kernel_rfl
def laidS : List (String × DataW Unit) := [("unicode.White_Space", Rows.laid_unicode_White_Space), ("strings.asciiSpace", Rows.laid_strings_asciiSpace)]
def laidN : List (String × DataW Unit) := [("unicode.White_Space", Rows.laid_unicode_White_Space), ("strings.asciiSpace", Rows.laid_strings_asciiSpace), ("grommet/op.numeric", Rows.laid_grommet_op_numeric)]
def laidF : List (String × DataW Unit) := [("unicode.White_Space", Rows.laid_unicode_White_Space), ("strings.asciiSpace", Rows.laid_strings_asciiSpace), ("grommet/op.foreign", Rows.laid_grommet_op_foreign), ("grommet/op.widths", Rows.laid_grommet_op_widths)]
theorem tabSp : (Rows.laid_strings_asciiSpace : DataW Unit) = Lib.tabData .u8 Lib.asciiSpaceTab := by kernel_rfl
theorem tb_of_reads {W : World} (h : Lib.VarReads Tryd.prog W "strings.asciiSpace" Rows.laid_strings_asciiSpace) : Tb W := by
  obtain ⟨g, t, cs, fuel, p, hg, ht, hv, hd⟩ := h
  obtain rfl := Option.some.inj (Tryd.gSp.symm.trans hg)
  obtain rfl := Option.some.inj (Tryd.tSp.symm.trans ht)
  rw [tabSp] at hd
  have hc := Lib.cells_of_tab Tryd.underlying124 Tryd.underlying5 (by kernel_rfl) (by kernel_rfl) hd
  intro c hcc
  have hcell := World.var?_cell hg hv c
  have e : cs[c]? = some (.int .u8 (if Lib.isSp (UInt8.ofNat c) then 1 else 0)) := by
    have hl : c < Lib.asciiSpaceTab.length := by rw [Lib.asciiSpaceTab_length]; exact hcc
    rw [← Array.getElem?_toList, hc, List.getElem?_map, List.getElem?_eq_getElem hl, ← Lib.asciiSpaceTab_at c hcc, List.getD_eq_getElem?_getD, List.getElem?_eq_getElem hl]
    rfl
  rw [← e]
  exact hcell
theorem tb_S {W : World} (h : laidMetH Tryd.prog laidS W) : Tb W := by
  rw [MakeChecks.laidMetH_plain _ _ _ (by kernel_rfl)] at h
  exact tb_of_reads (Lib.laidMet.reads h (List.mem_cons_of_mem _ (List.mem_cons_self ..)))
theorem tb_N {W : World} (h : laidMetH Tryd.prog laidN W) : Tb W := by
  rw [MakeChecks.laidMetH_plain _ _ _ (by kernel_rfl)] at h
  exact tb_of_reads (Lib.laidMet.reads h (List.mem_cons_of_mem _ (List.mem_cons_self ..)))
theorem tb_F {W : World} (h : laidMetH Tryd.prog laidF W) : Tb W := by
  rw [MakeChecks.laidMetH_plain _ _ _ (by kernel_rfl)] at h
  exact tb_of_reads (Lib.laidMet.reads h (List.mem_cons_of_mem _ (List.mem_cons_self ..)))
theorem doorS_met (os : Os) (args : Array Value) : laidMetH Tryd.prog laidS ((World.doorLaid Tryd.prog 2000 os).forCall (fun _ _ => 0) ⟨#[], args, []⟩).memory :=
  laidMetH_of_parts3 (fuel := 8) (laidMet_of_run' 8 (by kernel_rfl) (by kernel_rfl)) (by kernel_rfl) (by kernel_rfl)
theorem doorN_met (os : Os) (args : Array Value) : laidMetH Tryd.prog laidN ((World.doorLaid Tryd.prog 2000 os).forCall (fun _ _ => 0) ⟨#[], args, []⟩).memory :=
  laidMetH_of_parts3 (fuel := 8) (laidMet_of_run' 8 (by kernel_rfl) (by kernel_rfl)) (by kernel_rfl) (by kernel_rfl)
theorem doorF_met (os : Os) (args : Array Value) : laidMetH Tryd.prog laidF ((World.doorLaid Tryd.prog 2000 os).forCall (fun _ _ => 0) ⟨#[], args, []⟩).memory :=
  laidMetH_of_parts3 (fuel := 8) (laidMet_of_run' 8 (by kernel_rfl) (by kernel_rfl)) (by kernel_rfl) (by kernel_rfl)
end Go.Proofs.YtalpkdnnclghaaaDoor
