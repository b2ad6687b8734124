/-
  What every card of this seat wants: the program's knob, its layout, and what the condition on the tables gives a walk.
-/
import Derived.Test.YtmbnaejoiglckaaDoorWg
import Derived.Test.YtmbnaejoiglckaaDoorTie
import Derived.ProofKit
import Derived.LaidMore
import Derived.OpenShut
import Derived.Stop.Joined
import Derived.ChangeOld
import Derived.Below
import Derived.Lib.LaidU8
import Derived.SevenTiedAt
namespace Go.Proofs.YtmbnaejoiglckaaDoor
open Go.ChangeShapes Go.WideShapes Go.ChangeAt Go.RowKit
theorem Tryd.own : ownKnob Tryd.prog.godebug = none := by kernel_rfl
theorem Tryd.laidOut : laidOutB Tryd.prog = true := by kernel_rfl
theorem Tryd.g64 : Tryd.prog.globalNamed "math/bits.deBruijn64tab" = some 0 := by kernel_rfl
theorem Tryd.t64 : (Tryd.prog.globals[0]?).map (·.type) = some 72 := by kernel_rfl
def laidA : List (String × DataW Unit) := [("math/bits.deBruijn64tab", Rows.laid_math_bits_deBruijn64tab)]
def laidB : List (String × DataW Unit) := [("math/bits.deBruijn32tab", Rows.laid_math_bits_deBruijn32tab), ("math/bits.deBruijn64tab", Rows.laid_math_bits_deBruijn64tab), ("internal/strconv.uint64pow10", Rows.laid_internal_strconv_uint64pow10)]
theorem tab64 : (Rows.laid_math_bits_deBruijn64tab : DataW Unit) = Lib.tabData .u8 (dB.map fun n : Nat => (n : Int)) := rfl
theorem tb_of_reads {W : World} (h : Lib.VarReads Tryd.prog W "math/bits.deBruijn64tab" Rows.laid_math_bits_deBruijn64tab) : Tb W := by
  obtain ⟨g, t, cs, fuel, p, hg, ht, hv, hd⟩ := h
  obtain rfl := Option.some.inj (Tryd.g64.symm.trans hg)
  obtain rfl := Option.some.inj (Tryd.t64.symm.trans ht)
  rw [tab64] at hd
  have hc := Lib.cells_of_tab Tryd.underlying72 Tryd.underlying5 (by kernel_rfl) (by kernel_rfl) hd
  intro i hi
  have hcell := World.var?_cell hg hv i
  have e : cs[i]? = some (.int .u8 ((dB.getD i 0 : Nat) : Int)) := by
    have hl : i < dB.length := by exact hi
    rw [← Array.getElem?_toList, hc]
    simp [List.getElem?_eq_getElem hl]
  rw [← e]
  exact hcell
theorem tb_A {W : World} (h : laidMetH Tryd.prog laidA W) : Tb W := by
  rw [MakeChecks.laidMetH_plain _ _ _ (by kernel_rfl)] at h
  exact tb_of_reads (Lib.laidMet.reads h (List.mem_cons_self ..))
theorem tb_B {W : World} (h : laidMetH Tryd.prog laidB W) : Tb W := by
  rw [MakeChecks.laidMetH_plain _ _ _ (by kernel_rfl)] at h
  exact tb_of_reads (Lib.laidMet.reads h (List.mem_cons_of_mem _ (List.mem_cons_self ..)))
theorem doorA_met (os : Os) (args : Array Value) : laidMetH Tryd.prog laidA ((World.doorLaid Tryd.prog 2000 os).forCall (fun _ _ => 0) ⟨#[], args, []⟩).memory :=
  laidMetH_of_parts3 (fuel := 8) (laidMet_of_run' 8 (by kernel_rfl) (by kernel_rfl)) (by kernel_rfl) (by kernel_rfl)
theorem doorB_met (os : Os) (args : Array Value) : laidMetH Tryd.prog laidB ((World.doorLaid Tryd.prog 2000 os).forCall (fun _ _ => 0) ⟨#[], args, []⟩).memory :=
  laidMetH_of_parts3 (fuel := 8) (laidMet_of_run' 8 (by kernel_rfl) (by kernel_rfl)) (by kernel_rfl) (by kernel_rfl)
theorem u64_nat {a : Int} (w : (Lit.int .u64 a).wf = true) : ∃ m : Nat, a = (m : Int) ∧ m < 18446744073709551616 := by
  have := bounds_u64 w
  obtain ⟨m, rfl⟩ := Int.eq_ofNat_of_zero_le this.1
  exact ⟨m, rfl, by omega⟩
theorem Tb.size {w : World} (h : Tb w) : 0 < w.heap.size := by
  have h1 := h 0 (by decide)
  rcases Nat.eq_zero_or_pos w.heap.size with e | e
  · exfalso
    have : w.heap[0]? = none := Array.getElem?_eq_none (by omega)
    simp [World.cell?, this] at h1
  · exact e
theorem Tb.below {w w' : World} (h : Tb w) {B : Nat} (hb : Below B w w') (hB : 0 < B) : Tb w' := fun i hi => by
  rw [hb.cell (p := ⟨0, i, none⟩) hB]; exact h i hi
end Go.Proofs.YtmbnaejoiglckaaDoor
