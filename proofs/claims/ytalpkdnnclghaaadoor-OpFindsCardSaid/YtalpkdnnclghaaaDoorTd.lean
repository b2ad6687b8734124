/-
  OpNumeric: plain facts.
-/
import Derived.Test.YtalpkdnnclghaaaDoorTc
import Derived.Test.YtalpkdnnclghaaaDoorOn
import Derived.Great.BuildSlice
namespace Go.Proofs.YtalpkdnnclghaaaDoor
open Go.RowKit Go.ChangeShapes Go.WideShapes Go.ChangeAt
set_option linter.unusedVariables false
set_option linter.unusedSimpArgs false
def WT0 : List (List UInt8) := [[97, 100, 100], [115, 117, 98], [109, 117, 108], [100, 105, 118, 95, 115], [100, 105, 118, 95, 117], [114, 101, 109, 95, 115], [114, 101, 109, 95, 117], [97, 110, 100], [111, 114], [120, 111, 114], [115, 104, 108], [115, 104, 114, 95, 115], [115, 104, 114, 95, 117], [114, 111, 116, 108], [114, 111, 116, 114]]
def WT1 : List (List UInt8) := [[101, 113], [110, 101], [108, 116, 95, 115], [108, 116, 95, 117], [103, 116, 95, 115], [103, 116, 95, 117], [108, 101, 95, 115], [108, 101, 95, 117], [103, 101, 95, 115], [103, 101, 95, 117]]
def WT2 : List (List UInt8) := [[99, 108, 122], [99, 116, 122], [112, 111, 112, 99, 110, 116], [101, 113, 122]]
def WT (g : Nat) : List (List UInt8) := if g = 0 then WT0 else if g = 1 then WT1 else WT2
def kindL (b : Int) : List UInt8 := if b = 64 then [105, 54, 52, 46] else [105, 51, 50, 46]
def WV (l : List (List UInt8)) : Array Value := (l.map fun x => Value.string ⟨x.toArray⟩).toArray
theorem numB : (numL.all fun r => (List.range 20).all fun i => !(decide (r.getD 0 0 + (i : Int) ≤ r.getD 1 0)) || (decide (0 ≤ r.getD 2 0) && decide (r.getD 2 0 ≤ 2) && decide (0 ≤ r.getD 3 0) && decide ((r.getD 3 0).toNat + i < (WT (r.getD 2 0).toNat).length)
    && (decide (r.getD 4 0 = 32) || decide (r.getD 4 0 = 64)) && ((nameL (r.getD 0 0 + (i : Int))).map UInt8.toNat == (kindL (r.getD 4 0) ++ (WT (r.getD 2 0).toNat).getD ((r.getD 3 0).toNat + i) []).map UInt8.toNat))) = true := by kernel_rfl
theorem num_facts {c : Int} {r : List Int} (h : NumAt c r) : ∃ g k : Nat, r.getD 2 0 = (g : Int) ∧ g < 3 ∧ r.getD 3 0 + c - r.getD 0 0 = (k : Int) ∧ k < (WT g).length ∧ (r.getD 4 0 = 32 ∨ r.getD 4 0 = 64) ∧ nameL c = kindL (r.getD 4 0) ++ (WT g).getD k [] := by
  obtain ⟨hm, h1, h2⟩ := h
  have hs := num_small hm
  have hw : (numL.all fun r => decide (r.getD 1 0 - r.getD 0 0 < 20)) = true := by kernel_rfl
  have hw2 := List.all_eq_true.1 hw r hm
  rw [decide_eq_true_eq] at hw2
  obtain ⟨i, hi⟩ : ∃ i : Nat, c = r.getD 0 0 + (i : Int) := ⟨(c - r.getD 0 0).toNat, by omega⟩
  have hB := List.all_eq_true.1 (List.all_eq_true.1 numB r hm) i (by simp; omega)
  rw [← hi] at hB
  simp only [h2, decide_true, Bool.not_true, Bool.false_or, Bool.and_eq_true, Bool.or_eq_true, decide_eq_true_eq, beq_iff_eq] at hB
  obtain ⟨⟨⟨⟨⟨a, b⟩, d⟩, e⟩, f⟩, g⟩ := hB
  exact ⟨(r.getD 2 0).toNat, (r.getD 3 0).toNat + i, by omega, by omega, by omega, e, f, toNat_inj g⟩
theorem num_none {c : Int} (h : ∀ r, ¬ NumAt c r) : c < 69 ∨ (90 < c ∧ c < 103) ∨ 138 < c := by
  have q : ∀ r, r ∈ numL → ¬ (r.getD 0 0 ≤ c ∧ c ≤ r.getD 1 0) := fun r hr ⟨h1, h2⟩ => h r ⟨hr, h1, h2⟩
  simp only [numL, List.mem_cons, List.not_mem_nil, or_false, forall_eq_or_imp, forall_eq, List.getD_cons_zero, List.getD_cons_succ] at q
  omega
end Go.Proofs.YtalpkdnnclghaaaDoor
