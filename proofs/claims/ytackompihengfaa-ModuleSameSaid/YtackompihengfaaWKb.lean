/-
  ModuleSame: what the loops tell, put together, is what module.Same tells.
-/
import Derived.Test.YtackompihengfaaWJh
namespace Go.Proofs.Ytackompihengfaa
open Go.RowKit Go.PlainAid
set_option linter.unusedVariables false
/-- what the law asks ahead of its loops -/
def sm0 (x y : Mt) : Bool := decide (x.s0.n = y.s0.n) && decide (x.s1.n = y.s1.n) && decide (x.s2.n = y.s2.n) && decide (x.tab = y.tab) && decide (x.s4.n = y.s4.n) && decide (x.s5.n = y.s5.n) && decide (x.s6.n = y.s6.n) && decide (x.start = y.start) && decide (x.s8.n = y.s8.n) && decide (x.s9.n = y.s9.n)
/-- what it has behind them -/
def smA (x y : Mt) : Bool := sm0 x y && allB x.s0.n (fun i => eqS (x.X0 i) (y.X0 i)) && allB x.s1.n (fun i => eqImport (x.X1 i) (y.X1 i)) && allB x.s2.n (fun i => eqF (x.X2 i) (y.X2 i)) && allB x.s4.n (fun i => eqLimits (x.X4 i) (y.X4 i)) && allB x.s5.n (fun i => eqGlobal (x.X5 i) (y.X5 i)) && allB x.s6.n (fun i => eqExport (x.X6 i) (y.X6 i)) && allB x.s8.n (fun i => eqE (x.X8 i) (y.X8 i)) && allB x.s9.n (fun i => eqD (x.X9 i) (y.X9 i))
theorem smA_eq (x y : Mt) : smA x y = eqM x y := by
  unfold smA sm0 eqM eqMf eqMs eqL
  generalize decide (x.s0.n = y.s0.n) = a0
  generalize decide (x.s1.n = y.s1.n) = a1
  generalize decide (x.s2.n = y.s2.n) = a2
  generalize decide (x.tab = y.tab) = a3
  generalize decide (x.s4.n = y.s4.n) = a4
  generalize decide (x.s5.n = y.s5.n) = a5
  generalize decide (x.s6.n = y.s6.n) = a6
  generalize decide (x.start = y.start) = a7
  generalize decide (x.s8.n = y.s8.n) = a8
  generalize decide (x.s9.n = y.s9.n) = a9
  generalize allB x.s0.n _ = b0
  generalize allB x.s1.n _ = b1
  generalize allB x.s2.n _ = b2
  generalize allB x.s4.n _ = b4
  generalize allB x.s5.n _ = b5
  generalize allB x.s6.n _ = b6
  generalize allB x.s8.n _ = b8
  generalize allB x.s9.n _ = b9
  ac_rfl
theorem eqL_self {n : Nat} {e : Nat → Bool} (h : ∀ i, e i = true) : eqL n n e = true := eqL_yes rfl (fun i _ => h i)
theorem eqF_self (x : FunT) : eqF x x = true := by
  unfold eqF eqB
  rw [eqL_self (fun i => by unfold eqI; simp)]
  simp
theorem eqM_self (x : Mt) : eqM x x = true := by
  unfold eqM eqMf eqMs
  rw [eqL_self (fun i => by unfold eqS; simp), eqL_self (fun i => by unfold eqImport; simp), eqL_self (fun i => eqF_self _), eqL_self (fun i => by unfold eqLimits; simp), eqL_self (fun i => by unfold eqGlobal; simp), eqL_self (fun i => by unfold eqE; simp), eqL_self (fun i => by unfold eqD; simp), eqL_self (fun i => by unfold eqExport; simp)]
  simp
/-- the lengths that the loops ask -/
theorem sm0_len {x y : Mt} (h : sm0 x y = true) : x.s0.n = y.s0.n ∧ x.s1.n = y.s1.n ∧ x.s2.n = y.s2.n ∧ x.s4.n = y.s4.n ∧ x.s5.n = y.s5.n ∧ x.s6.n = y.s6.n ∧ x.s8.n = y.s8.n ∧ x.s9.n = y.s9.n := by
  unfold sm0 at h
  simp only [Bool.and_eq_true, decide_eq_true_eq] at h
  obtain ⟨⟨⟨⟨⟨⟨⟨⟨⟨h0, h1⟩, h2⟩, h3⟩, h4⟩, h5⟩, h6⟩, h7⟩, h8⟩, h9⟩ := h
  exact ⟨h0, h1, h2, h4, h5, h6, h8, h9⟩
end Go.Proofs.Ytackompihengfaa
