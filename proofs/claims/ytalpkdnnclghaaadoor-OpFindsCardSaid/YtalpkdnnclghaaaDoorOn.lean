/-
  OpNames: plain facts.
-/
import Derived.Test.YtalpkdnnclghaaaDoorRb
import Derived.Test.YtalpkdnnclghaaaDoorOo
namespace Go.Proofs.YtalpkdnnclghaaaDoor
open Go.RowKit Go.ChangeShapes Go.WideShapes Go.ChangeAt
set_option linter.unusedVariables false
set_option linter.unusedSimpArgs false
def cd (i : Nat) : Int := if 196 < i then 64522 + (i : Int) - 197 else (i : Int)
def cntN (i : Nat) : Nat := ((List.range i).filter fun j => !(nameL (cd j)).isEmpty).length
theorem cntN_199 : cntN 199 = 111 := by kernel_rfl
theorem cntN_more (i : Nat) : cntN (i + 1) = cntN i + if (nameL (cd i)).isEmpty then 0 else 1 := by
  unfold cntN
  rw [List.range_succ, List.filter_append, List.length_append]
  cases h : (nameL (cd i)).isEmpty <;> simp [h]
theorem cntN_le (i : Nat) : cntN i ≤ i := by
  unfold cntN
  have := List.length_filter_le (fun j => !(nameL (cd j)).isEmpty) (List.range i)
  simpa using this
/-- what the loop has found -/
def FI (nm : List UInt8) (i : Nat) (f : Int) : Prop := (f = -1 ∧ ∀ j, j < i → nameL (cd j) = [] ∨ nameL (cd j) ≠ nm) ∨ (0 ≤ f ∧ nameL f = nm ∧ nm ≠ [])
theorem cd_pos (i : Nat) : 0 ≤ cd i := by unfold cd; split <;> omega
theorem FI.skip {nm : List UInt8} {i : Nat} {f : Int} (h : FI nm i f) (hs : nameL (cd i) = [] ∨ nameL (cd i) ≠ nm) : FI nm (i + 1) f := by
  rcases h with ⟨h1, h2⟩ | h
  · refine .inl ⟨h1, fun j hj => ?_⟩
    by_cases e : j = i
    · rw [e]; exact hs
    · exact h2 j (by omega)
  · exact .inr h
theorem FI.hit {nm : List UInt8} {i : Nat} (h1 : nameL (cd i) ≠ []) (h2 : nameL (cd i) = nm) : FI nm (i + 1) (cd i) := .inr ⟨cd_pos i, h2, by rw [← h2]; exact h1⟩
theorem cdB : (OPS.all fun q => (List.range 199).any fun j => cd j == ((q.1.first + q.2 : Nat) : Int)) = true := by kernel_rfl
theorem cd_of {c : Int} {r : Rw} {i : Nat} (h : OpAt c r i) : ∃ j, j < 199 ∧ cd j = c := by
  obtain ⟨j, hj, he⟩ := List.any_eq_true.1 (List.all_eq_true.1 cdB _ h.1)
  refine ⟨j, by simpa using hj, ?_⟩
  rw [beq_iff_eq] at he
  rw [he, ← h.2]
  simp
theorem op_of_name {c : Int} (h : nameL c ≠ []) : ∃ r i, OpAt c r i := by
  rcases Classical.em (∃ r i, OpAt c r i) with h1 | h1
  · exact h1
  · exact absurd (name_no (fun r i ho => h1 ⟨r, i, ho⟩)) h
theorem name_data {c : Int} {r : Rw} {i : Nat} (h : OpAt c r i) : (nmS r i).data.toList = nameL c := by rw [name_of h]
/-- at the end: just if there is an op of that name -/
theorem FI.yes {s : ByteArray} {f : Int} (h : FI s.data.toList 199 f) {c : Int} {r : Rw} {i : Nat} (ho : OpAt c r i) (hn : nmS r i = s) : f = c ∧ 0 ≤ f := by
  have hs : s.data.toList = nameL c := by rw [← hn]; exact name_data ho
  rcases h with ⟨_, h2⟩ | ⟨h0, h1, h2⟩
  · obtain ⟨j, hj, e⟩ := cd_of ho
    rcases h2 j hj with h3 | h3
    · rw [e] at h3; exact absurd h3 (name_ne ho)
    · rw [e, hs] at h3; exact absurd rfl h3
  · obtain ⟨r', i', ho'⟩ := op_of_name (c := f) (by rw [h1]; exact h2)
    refine ⟨(names_apart ho' ho).1 ?_, h0⟩
    rw [hn]
    exact ba_ext (by rw [name_data ho', h1])
theorem FI.no {s : ByteArray} {f : Int} (h : FI s.data.toList 199 f) (hn : ∀ c r i, OpAt c r i → nmS r i ≠ s) : f = -1 := by
  rcases h with ⟨h1, _⟩ | ⟨h0, h1, h2⟩
  · exact h1
  · obtain ⟨r', i', ho'⟩ := op_of_name (c := f) (by rw [h1]; exact h2)
    exact absurd (ba_ext (by rw [name_data ho', h1])) (hn f r' i' ho')
theorem risB : ((List.range 110).all fun k => match OPS[k]?, OPS[k + 1]? with | some a, some b => decide (a.1.first + a.2 < b.1.first + b.2) | _, _ => false) = true := by kernel_rfl
theorem rises {k : Nat} {a b : Rw × Nat} (h1 : OPS[k]? = some a) (h2 : OPS[k + 1]? = some b) : a.1.first + a.2 < b.1.first + b.2 := by
  have hk : k + 1 < 111 := by rw [← OPS_length]; exact (List.getElem?_eq_some_iff.1 h2).1
  have := List.all_eq_true.1 risB k (by simp; omega)
  rw [h1, h2] at this
  simpa using this
end Go.Proofs.YtalpkdnnclghaaaDoor
