/-
  What the condition on the three tables gives a walk of layer 6.
-/
import Derived.Test.YtmbnaejoiglckaaDoorCf
namespace Go.Proofs.YtmbnaejoiglckaaDoor
open Go.ChangeShapes Go.WideShapes Go.ChangeAt Go.RowKit
theorem Tryd.g10 : Tryd.prog.globalNamed "internal/strconv.uint64pow10" = some 1 := by kernel_rfl
theorem Tryd.t10 : (Tryd.prog.globals[1]?).map (·.type) = some 89 := by kernel_rfl
def laidP : List (String × DataW Unit) := laidB
def pz : List Int := [1, 10, 100, 1000, 10000, 100000, 1000000, 10000000, 100000000, 1000000000, 10000000000, 100000000000, 1000000000000, 10000000000000, 100000000000000, 1000000000000000, 10000000000000000, 100000000000000000, 1000000000000000000, 10000000000000000000]
theorem tab10 : (Rows.laid_internal_strconv_uint64pow10 : DataW Unit) = Lib.tabData .u64 pz := rfl
theorem tb_P {W : World} (h : laidMetH Tryd.prog laidP W) : Pw W := by
  rw [MakeChecks.laidMetH_plain _ _ _ (by kernel_rfl)] at h
  obtain ⟨g, t, cs, fuel, p, hg, ht, hv, hd⟩ := Lib.laidMet.reads h (show ("internal/strconv.uint64pow10", Rows.laid_internal_strconv_uint64pow10) ∈ laidP from List.mem_cons_of_mem _ (List.mem_cons_of_mem _ (List.mem_cons_self ..)))
  obtain rfl := Option.some.inj (Tryd.g10.symm.trans hg)
  obtain rfl := Option.some.inj (Tryd.t10.symm.trans ht)
  rw [tab10] at hd
  have hc := Lib.cells_of_tab Tryd.underlying89 Tryd.underlying22 (by kernel_rfl) (by kernel_rfl) hd
  have hcell := World.var?_cell hg hv 0
  have e : cs[0]? = some (.int .u64 1) := by
    rw [← Array.getElem?_toList, hc]; rfl
  rw [e] at hcell
  exact ⟨hcell, lt_of_cell hcell⟩
theorem doorP_met (os : Os) (args : Array Value) : laidMetH Tryd.prog laidP ((World.doorLaid Tryd.prog 2000 os).forCall (fun _ _ => 0) ⟨#[], args, []⟩).memory := doorB_met os args
end Go.Proofs.YtmbnaejoiglckaaDoor
