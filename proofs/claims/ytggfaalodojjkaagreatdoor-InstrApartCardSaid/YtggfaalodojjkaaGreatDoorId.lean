/-
  instr: the op of an instruction.
-/
import Derived.Test.YtggfaalodojjkaaGreatDoorIc
import Derived.BigGuard
import Derived.Deep.RegionHeld3
namespace Go.Proofs.YtggfaalodojjkaaGreatDoor
open Go.RowKit
set_option linter.unusedVariables false
set_option linter.unusedSimpArgs false
/-- facts of all rows -/
theorem rw_facts : ∀ r ∈ RW, r.takes.length ≤ 3 ∧ r.gives.length ≤ 3 ∧ (r.form = 11 → r.gives = [126] ∨ r.gives = [127]) := by decide +kernel
/-- the bounds of a row -/
def bnR (r : Rw) : Bn := bn (r.form : Int) (r.gives.getD 0 0)
/-- may an instruction of this row be? -/
def riB (x : In) (r : Rw) : Bool := wiB x (bnR r) && !(decide (r.form = 1) && !bkB x.a)
/-- a row's info in memory -/
def InfAt (w : World) (B : Nat) (r : Rw) (i : Nat) (At : Option Addr) (ct : Nat) (Ag : Option Addr) (cg : Nat) : Prop :=
  w.ownsRow B 113 1 (.slice At r.takes.length ct) r.takes.length (r.takes.map U8) ∧ w.ownsRow B 113 1 (.slice Ag r.gives.length cg) r.gives.length (r.gives.map U8)
def infV (r : Rw) (i : Nat) (At : Option Addr) (ct : Nat) (Ag : Option Addr) (cg : Nat) : Array Value := #[.int .i64 ((r.first : Int) + (i : Int)), .string (nmS r i), .int .i64 ((r.form : Nat) : Int), .slice At r.takes.length ct, .slice Ag r.gives.length cg]
/-- the bounds of a row's info -/
theorem boundR_ok (r : Rw) (hr : r ∈ RW) (i B : Nat) (At : Option Addr) (ct : Nat) (Ag : Option Addr) (cg : Nat) (w : World) (h : InfAt w B r i At ct Ag cg) :
    Calls Tryz.prog 55 #[.agg (infV r i At ct Ag cg)] w fun e w' => e = .returned (bnR r).v ∧ Below w.heap.size w w' := by
  unfold infV bnR
  by_cases h0 : r.form = 0
  · rw [h0]; exact bound0_ok _ _ _ _ _ _ _ _ w
  by_cases h3 : r.form = 3
  · rw [h3]; exact bound3_ok _ _ _ _ _ _ _ _ w
  by_cases h5 : r.form = 5
  · rw [h5]; exact bound5_ok _ _ _ _ _ _ _ _ w
  by_cases h10 : r.form = 10
  · rw [h10]; exact bound10_ok _ _ _ _ _ _ _ _ w
  by_cases h8 : r.form = 8
  · rw [h8]; exact bound8_ok _ _ _ _ _ _ _ _ w
  by_cases h11 : r.form = 11
  · obtain ⟨A1, c1, e1, t1, t2, t3⟩ := byt_own113 h.1 rfl
    obtain ⟨A2, c2, e2, g1, g2, g3⟩ := byt_own113 h.2 rfl
    cases e1
    cases e2
    unfold maxLen at t2 g2
    rcases (rw_facts r hr).2.2 h11 with e | e
    · rw [e] at g1 g3 ⊢
      obtain ⟨g, rfl, hgl, hc⟩ := g3 (by simp)
      rw [h11]
      exact bound11_126 _ _ _ _ _ g 1 _ w (by decide) g1 g2 hgl (hc 0 (by simp)) t1 t2
    · rw [e] at g1 g3 ⊢
      obtain ⟨g, rfl, hgl, hc⟩ := g3 (by simp)
      rw [h11]
      exact bound11_127 _ _ _ _ _ g 1 _ w (by decide) g1 g2 hgl (hc 0 (by simp)) t1 t2
  · have k := boundX_ok (r.form : Int) (by omega) (by omega) (by omega) (by omega) (by omega) (by omega) ((r.first : Int) + (i : Int)) (nmS r i) At Ag r.takes.length ct r.gives.length cg w
    unfold bn
    rw [if_neg (by omega), if_neg (by omega), if_neg (by omega), if_neg (by omega), if_neg (by omega)]
    exact k
end Go.Proofs.YtggfaalodojjkaaGreatDoor
