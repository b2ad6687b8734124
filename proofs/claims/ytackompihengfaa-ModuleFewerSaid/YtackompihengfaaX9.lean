/-
  ModuleFewer: five copies: the region, and what is told of it.
-/
import Derived.Test.YtackompihengfaaX6
import Derived.Test.YtackompihengfaaHa
import Derived.Test.YtackompihengfaaFc
import Derived.BigQuiet
import Derived.Deep.RegionHeld3
import Derived.BigGuard
namespace Go.Proofs.Ytackompihengfaa
open Go.RowKit Go.PlainAid
set_option linter.unusedVariables false
set_option linter.unusedSimpArgs false
def oneReg' (n : Nat) : Code → Option Code
  | .region i ops d => if i = n then some (.region i ops d) else none
  | .block _ c => oneReg' n c
  | .seq a b => match oneReg' n a with
    | some c => some c
    | none => oneReg' n b
  | .loop c => oneReg' n c
  | .scope c => oneReg' n c
  | .cond _ a b => match oneReg' n a with
    | some c => some c
    | none => oneReg' n b
  | _ => none
noncomputable def mwReg6 : Code := ((Try.f6.body.bind (oneReg' 6)).getD .skip)
noncomputable def mwOps : Array Oper := match mwReg6 with
  | .region _ ops _ => ops
  | _ => #[]
theorem mwReg6_eq : mwReg6 = .region 6 mwOps true := by kernel_rfl
/-- a new block of this kind -/
def Nb (W0 W : World) (b : Nat) (cs : Array Value) : Prop := Blk W b 31 cs ∧ W0.heap.size ≤ b
theorem Nb.below {W0 W W' : World} {b : Nat} {cs : Array Value} (h : Nb W0 W b cs) (hb : Below W.heap.size W W') : Nb W0 W' b cs := ⟨h.1.below hb h.1.lt, h.2⟩
theorem Nb.row {W0 W : World} {b b' : Nat} {cs cs' : Array Value} (h : Nb W0 W b cs) (hne : b ≠ b') : Nb W0 (W.setRow b' cs') b cs := ⟨(setRow_other W b' b cs' (fun e => hne (by first | exact e | exact e.symm))).trans h.1, h.2⟩
/-- the box that is copied -/
def BxC (W0 W : World) (bx : Nat) (cs : Array Value) : Prop := Below W0.heap.size W0 W ∧ Blk W0 bx 31 cs
theorem BxC.blk {W0 W : World} {bx : Nat} {cs : Array Value} (h : BxC W0 W bx cs) : Blk W bx 31 cs := h.2.below h.1 h.2.lt
end Go.Proofs.Ytackompihengfaa
