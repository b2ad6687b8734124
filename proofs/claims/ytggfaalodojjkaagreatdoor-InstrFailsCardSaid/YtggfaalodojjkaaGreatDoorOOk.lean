/-
  Which ops there are: codes and names.
-/
import Derived.Test.YtggfaalodojjkaaGreatDoorOOj
namespace Go.Proofs.YtggfaalodojjkaaGreatDoor
open Go.RowKit Go.ChangeShapes Go.WideShapes Go.ChangeAt
set_option linter.unusedVariables false
set_option linter.unusedSimpArgs false
theorem RowOf.fst {code : Int} {k : Nat} {r : Rw} (h : RowOf code k r) : (fstK k : Int) ≤ code := by
  unfold fstK; rw [h.1]; exact h.2.1
theorem RowOf.lt {code : Int} {k : Nat} {r : Rw} (h : RowOf code k r) : k < 38 := by rw [← RW_length]; exact (List.getElem?_eq_some_iff.1 h.1).1
theorem RowOf.uniq {code : Int} {k k' : Nat} {r r' : Rw} (h : RowOf code k r) (h' : RowOf code k' r') : k = k' ∧ r = r' := by
  have e : k = k' := by
    rcases Nat.lt_trichotomy k k' with h1 | h1 | h1
    · have := h.2.2 k' h1 h'.lt; have := h'.fst; omega
    · exact h1
    · have := h'.2.2 k h1 h.lt; have := h.fst; omega
  subst e
  exact ⟨rfl, Option.some.inj (h.1.symm.trans h'.1)⟩
/-- the op of a code: a row, and a place in it -/
def OpAt (code : Int) (r : Rw) (i : Nat) : Prop := (r, i) ∈ OPS ∧ (r.first : Int) + (i : Int) = code
theorem mem_OPS {r : Rw} {i : Nat} : (r, i) ∈ OPS ↔ r ∈ RW ∧ i < (Lib.fields r.names).length := by
  unfold OPS opsR
  simp only [List.mem_flatMap, List.mem_map, List.mem_range, Prod.mk.injEq]
  constructor
  · rintro ⟨r', h1, i', h2, rfl, rfl⟩; exact ⟨h1, h2⟩
  · rintro ⟨h1, h2⟩; exact ⟨r, h1, i, h2, rfl, rfl⟩
def nmL (r : Rw) (i : Nat) : List UInt8 := r.head ++ ((Lib.fields r.names)[i]?).getD []
theorem nmL_eq (r : Rw) (i : Nat) : (nmS r i).data.toList = nmL r i := by
  rw [nm_list]
  unfold nmL wordB
  cases (Lib.fields r.names)[i]? <;> rfl
/-- codes and names, as numbers -/
def CNS : List (Nat × List Nat) := OPS.map fun q => (q.1.first + q.2, (nmL q.1 q.2).map UInt8.toNat)
def lenK (k : Nat) : Nat := ((RW[k]?).map fun r => (Lib.fields r.names).length).getD 0
theorem nolap : ∀ k j, k < j → j < 38 → fstK k + lenK k ≤ fstK j := by
  have h : ((List.range 38).all fun k => (List.range 38).all fun j => !(decide (k < j)) || decide (fstK k + lenK k ≤ fstK j)) = true := by kernel_rfl
  intro k j h1 h2
  have h3 := List.all_eq_true.1 (List.all_eq_true.1 h k (by simp; omega)) j (by simp; omega)
  simpa [h1] using h3
theorem RowOf.of_op {code : Int} {r : Rw} {i : Nat} (h : OpAt code r i) : ∃ k, RowOf code k r := by
  obtain ⟨h1, h2⟩ := h
  obtain ⟨h3, h4⟩ := mem_OPS.1 h1
  obtain ⟨k, hk⟩ := List.getElem?_of_mem h3
  refine ⟨k, hk, by omega, fun j hj hj2 => ?_⟩
  have := nolap k j hj hj2
  have e1 : fstK k = r.first := by unfold fstK; rw [hk]; rfl
  have e2 : lenK k = (Lib.fields r.names).length := by unfold lenK; rw [hk]; rfl
  omega
theorem row_ex (code : Int) (h : 0 ≤ code) : ∃ k r, RowOf code k r := by
  have h0 : fstK 0 = 0 := by kernel_rfl
  have key : ∀ n, n ≤ 38 → (∀ j, n ≤ j → j < 38 → code < (fstK j : Int)) → ∃ k r, RowOf code k r := by
    intro n
    induction n with
    | zero => intro _ hj; have := hj 0 (Nat.le_refl _) (by omega); rw [h0] at this; omega
    | succ n ih =>
      intro hn hj
      by_cases hc : code < (fstK n : Int)
      · exact ih (by omega) (fun j h1 h2 => by
          by_cases e : j = n
          · rw [e]; exact hc
          · exact hj j (by omega) h2)
      · obtain ⟨r, hr⟩ : ∃ r, RW[n]? = some r := ⟨_, List.getElem?_eq_getElem (by rw [RW_length]; omega)⟩
        have e1 : fstK n = r.first := by unfold fstK; rw [hr]; rfl
        exact ⟨n, r, hr, by omega, fun j h1 h2 => hj j (by omega) h2⟩
  exact key 38 (Nat.le_refl _) (fun j h1 h2 => by omega)
theorem Find_case (code : Int) (hc : (Lit.int .i64 code).wf = true) :
    (∃ r i, OpAt code r i ∧ ∀ W, Tb W → Calls Tryz.prog 53 #[.int .i64 code] W (IPost r i W)) ∨
    ((∀ r i, ¬ OpAt code r i) ∧ ∀ W, Tb W → Calls Tryz.prog 53 #[.int .i64 code] W (NoPost W)) := by
  by_cases h0 : code < 0
  · refine .inr ⟨fun r i h => ?_, fun W hT => (Find_any code hc W hT).mono ?_⟩
    · have := h.2; omega
    · intro e w' h
      rcases h with ⟨_, h⟩ | ⟨k, r, hr, _⟩
      · exact h
      · have := hr.2.1; omega
  · obtain ⟨k, r, hr⟩ := row_ex code (by omega)
    have hm : r ∈ RW := List.mem_of_getElem? hr.1
    by_cases hl : (code - r.first).toNat < (Lib.fields r.names).length
    · refine .inl ⟨r, (code - r.first).toNat, ⟨mem_OPS.2 ⟨hm, hl⟩, by have := hr.2.1; omega⟩, fun W hT => (Find_any code hc W hT).mono ?_⟩
      intro e w' h
      rcases h with ⟨h, _⟩ | ⟨k', r', hr', h⟩
      · omega
      · obtain ⟨rfl, rfl⟩ := hr.uniq hr'
        rcases h with ⟨h, _⟩ | ⟨_, h⟩
        · omega
        · exact h
    · refine .inr ⟨fun r' i h => ?_, fun W hT => (Find_any code hc W hT).mono ?_⟩
      · obtain ⟨k', hk'⟩ := RowOf.of_op h
        obtain ⟨rfl, rfl⟩ := hr.uniq hk'
        have := (mem_OPS.1 h.1).2
        have := h.2
        omega
      · intro e w' h
        rcases h with ⟨h, _⟩ | ⟨k', r', hr', h⟩
        · omega
        · obtain ⟨rfl, rfl⟩ := hr.uniq hr'
          rcases h with ⟨_, h⟩ | ⟨h, _⟩
          · exact h
          · omega
theorem apartB : (CNS.all fun a => CNS.all fun b => (a.2 == b.2) == (a.1 == b.1)) = true := by kernel_rfl
theorem toNat_inj {a b : List UInt8} (h : a.map UInt8.toNat = b.map UInt8.toNat) : a = b := by
  induction a generalizing b with
  | nil => cases b with
    | nil => rfl
    | cons y b => simp at h
  | cons x a ih => cases b with
    | nil => simp at h
    | cons y b =>
      simp only [List.map_cons, List.cons.injEq] at h
      rw [UInt8.toNat_inj.1 h.1, ih h.2]
/-- no two ops have one name -/
theorem names_apart {c c' : Int} {r r' : Rw} {i i' : Nat} (h : OpAt c r i) (h' : OpAt c' r' i') : nmS r i = nmS r' i' ↔ c = c' := by
  have m : ∀ {r i}, (r, i) ∈ OPS → (r.first + i, (nmL r i).map UInt8.toNat) ∈ CNS := fun hm => List.mem_map.2 ⟨_, hm, rfl⟩
  have hB := List.all_eq_true.1 (List.all_eq_true.1 apartB _ (m h.1)) _ (m h'.1)
  simp only [beq_iff_eq] at hB
  have e : ((nmL r i).map UInt8.toNat = (nmL r' i').map UInt8.toNat) ↔ (r.first + i = r'.first + i') := by
    constructor
    · intro q
      have q1 : ((nmL r i).map UInt8.toNat == (nmL r' i').map UInt8.toNat) = true := by rw [beq_iff_eq]; exact q
      rw [q1] at hB
      exact beq_iff_eq.1 hB.symm
    · intro q
      have q1 : (r.first + i == r'.first + i') = true := by rw [beq_iff_eq]; exact q
      rw [q1] at hB
      exact beq_iff_eq.1 hB
  have h2 := h.2
  have h3 := h'.2
  constructor
  · intro q
    have : nmL r i = nmL r' i' := by rw [← nmL_eq, ← nmL_eq, q]
    have := e.1 (by rw [this])
    omega
  · intro q
    have := e.2 (by omega)
    exact ba_ext (by rw [nmL_eq, nmL_eq]; exact toNat_inj this)
end Go.Proofs.YtggfaalodojjkaaGreatDoor
