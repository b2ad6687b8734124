/-
  The step from an argument as it is read to the cells that the walks ask for.
-/
import Derived.Test.YtggfaalodojjkaaGreatDoorQLf
import Derived.ProofKit
import Derived.OpenShut
namespace Go.Proofs.YtggfaalodojjkaaGreatDoor
open Go.RowKit
set_option linter.unusedVariables false
/-- an argument that is a slice of integers: nil, or a row of cells -/
def IsRow (k : IntKind) (w : World) (a : Option Addr) (len cap : Nat) (zs : List Int) : Prop :=
  (a = none ∧ len = 0 ∧ cap = 0 ∧ zs = []) ∨
  ∃ x, a = some x ∧ len ≤ cap ∧ cap ≤ maxLen ∧ zs.length = cap ∧ (∀ i, i < zs.length → w.cell? (x.add i) = some (.int k (zs.getD i 0))) ∧ ∀ n ∈ zs, (Lit.int k n).wf = true
theorem wf_u8 {n : Int} (h : (Lit.int .u8 n).wf = true) : 0 ≤ n ∧ n < 256 := by
  have := bounds_u8 h
  omega
theorem byt_of_row {w : World} {a : Option Addr} {len cap : Nat} {zs : List Int} (h : IsRow .u8 w a len cap zs) : ∃ l, Byt w a len cap l := by
  rcases h with ⟨rfl, rfl, rfl, rfl⟩ | ⟨x, rfl, hl, hm, hz, hc, hw⟩
  · exact ⟨[], rfl, by simp, Nat.le_refl _, Nat.zero_le _, fun h => by omega⟩
  · refine ⟨(zs.take len).map Int.toNat, by simp; omega, ?_, hl, hm, fun h0 => ?_⟩
    · intro n hn
      rw [List.mem_map] at hn
      obtain ⟨z, hz1, rfl⟩ := hn
      have := wf_u8 (hw z (List.mem_of_mem_take hz1))
      omega
    · have h1 := hc 0 (by omega)
      obtain ⟨b, off, spot⟩ := x
      have hspot : spot = none := by simpa [Addr.add] using World.cell?_spot h1
      subst hspot
      have e : ∀ i, (⟨b, off, none⟩ : Addr).add i = ⟨b, off + i, none⟩ := fun i => by cases i <;> rfl
      refine ⟨b, off, rfl, by have := lt_of_cell h1; rw [e] at this; exact this, fun j hj => ?_⟩
      have h2 := hc j (by omega)
      rw [e] at h2
      rw [h2]
      have hjz : j < zs.length := by omega
      have h3 := wf_u8 (hw _ (List.getElem_mem hjz))
      rw [List.getD_eq_getElem?_getD, List.getD_eq_getElem?_getD, List.getElem?_map, List.getElem?_take_of_lt hj, List.getElem?_eq_getElem hjz]
      simp only [Option.map_some, Option.getD_some]
      rw [Int.toNat_of_nonneg h3.1]
end Go.Proofs.YtggfaalodojjkaaGreatDoor
