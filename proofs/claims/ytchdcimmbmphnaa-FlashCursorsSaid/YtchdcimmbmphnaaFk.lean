/-
  b[i:j] of bytes, as an equation on its run, whatever address they have.
-/
import Derived.Test.YtchdcimmbmphnaaFj
namespace Go.Proofs.Ytchdcimmbmphnaa
open Go.RowKit
set_option linter.unusedVariables false
def cutA (A : Option Addr) (cap a : Nat) : Option Addr := if cap = a then A else A.map (·.add (a * 1))
theorem el22 : Try.prog.underlying 22 = some (.slice (Try.prog.elem 22)) := by kernel_rfl
theorem sz22 (W : World) : (sizeOf (Try.prog.elem 22)).run Try.prog W = .ok 1 W := by kernel_rfl
theorem cut_run (A : Option Addr) (n cap a b : Nat) (hi : Int) (hh : hi = (b : Int)) (h1 : a ≤ b) (h2 : b ≤ cap) (W : World) :
    (Instr.slice 22 (.slice A n cap) (some (.int .i64 (a : Int))) (some (.int .i64 hi)) none).run Try.prog W = .ok (.slice (cutA A cap a) (b - a) (cap - a)) W := by
  subst hh
  rw [run_slice_lh (P := Try.prog) W 22 A n cap el22 .i64 .i64 (a : Int) (b : Int) (by omega) (by omega) (by omega), sz22]
  simp [Result.andThen, sliced, cutA]
theorem cut_byt {w : World} {A : Option Addr} {n cap a b : Nat} {l : List Nat} (h : Byt w A n cap l) (h1 : a ≤ b) (h2 : b ≤ n) : Byt w (cutA A cap a) (b - a) (cap - a) ((l.drop a).take (b - a)) := by
  obtain ⟨hl, hx, hn, hcap, hc⟩ := h
  refine ⟨by rw [List.length_take, List.length_drop]; omega, fun x hm => hx x (List.mem_of_mem_drop (List.mem_of_mem_take hm)), by omega, by omega, fun h0 => ?_⟩
  obtain ⟨g, off, rfl, hlt, hcell⟩ := hc (by omega)
  refine ⟨g, off + a, ?_, hlt, fun j hj => ?_⟩
  · unfold cutA
    rw [if_neg (by omega), Nat.mul_one]
    rw [Option.map_some, addr_add]
  · rw [show off + a + j = off + (a + j) from by omega, hcell (a + j) (by omega)]
    congr 3
    rw [List.getD_eq_getElem?_getD, List.getD_eq_getElem?_getD, List.getElem?_take_of_lt hj, List.getElem?_drop]
end Go.Proofs.Ytchdcimmbmphnaa
