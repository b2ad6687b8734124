/-
  The document's names of codes, as numbers.
-/
import Derived.Test.YtggfaalodojjkaaGreatDoorOOk
import Derived.Test.YtggfaalodojjkaaGreatDoorIi
import Derived.Great.BuildSlice
import Derived.Outline
import Derived.Test.YtggfaalodojjkaaGreatDoorX2
import Derived.BigGuard
import Derived.ProofKit
namespace Go.Proofs.YtggfaalodojjkaaGreatDoor
set_option maxRecDepth 10000
def TN0 : List (List UInt8) := [[117, 110, 114, 101, 97, 99, 104, 97, 98, 108, 101], [110, 111, 112], [98, 108, 111, 99, 107], [108, 111, 111, 112], [105, 102], [101, 108, 115, 101], [], [], [], [], [], [101, 110, 100], [98, 114], [98, 114, 95, 105, 102], [98, 114, 95, 116, 97, 98, 108, 101], [114, 101, 116, 117, 114, 110], [99, 97, 108, 108], [99, 97, 108, 108, 95, 105, 110, 100, 105, 114, 101, 99, 116], [], []]
def TN1 : List (List UInt8) := [[], [], [], [], [], [], [100, 114, 111, 112], [115, 101, 108, 101, 99, 116], [], [], [], [], [108, 111, 99, 97, 108, 46, 103, 101, 116], [108, 111, 99, 97, 108, 46, 115, 101, 116], [108, 111, 99, 97, 108, 46, 116, 101, 101], [103, 108, 111, 98, 97, 108, 46, 103, 101, 116], [103, 108, 111, 98, 97, 108, 46, 115, 101, 116], [], [], []]
def TN2 : List (List UInt8) := [[105, 51, 50, 46, 108, 111, 97, 100], [105, 54, 52, 46, 108, 111, 97, 100], [], [], [105, 51, 50, 46, 108, 111, 97, 100, 56, 95, 115], [105, 51, 50, 46, 108, 111, 97, 100, 56, 95, 117], [105, 51, 50, 46, 108, 111, 97, 100, 49, 54, 95, 115], [105, 51, 50, 46, 108, 111, 97, 100, 49, 54, 95, 117], [105, 54, 52, 46, 108, 111, 97, 100, 56, 95, 115], [105, 54, 52, 46, 108, 111, 97, 100, 56, 95, 117], [105, 54, 52, 46, 108, 111, 97, 100, 49, 54, 95, 115], [105, 54, 52, 46, 108, 111, 97, 100, 49, 54, 95, 117], [105, 54, 52, 46, 108, 111, 97, 100, 51, 50, 95, 115], [105, 54, 52, 46, 108, 111, 97, 100, 51, 50, 95, 117], [105, 51, 50, 46, 115, 116, 111, 114, 101], [105, 54, 52, 46, 115, 116, 111, 114, 101], [], [], [105, 51, 50, 46, 115, 116, 111, 114, 101, 56], [105, 51, 50, 46, 115, 116, 111, 114, 101, 49, 54]]
def TN3 : List (List UInt8) := [[105, 54, 52, 46, 115, 116, 111, 114, 101, 56], [105, 54, 52, 46, 115, 116, 111, 114, 101, 49, 54], [105, 54, 52, 46, 115, 116, 111, 114, 101, 51, 50], [109, 101, 109, 111, 114, 121, 46, 115, 105, 122, 101], [109, 101, 109, 111, 114, 121, 46, 103, 114, 111, 119], [105, 51, 50, 46, 99, 111, 110, 115, 116], [105, 54, 52, 46, 99, 111, 110, 115, 116], [], [], [105, 51, 50, 46, 101, 113, 122], [105, 51, 50, 46, 101, 113], [105, 51, 50, 46, 110, 101], [105, 51, 50, 46, 108, 116, 95, 115], [105, 51, 50, 46, 108, 116, 95, 117], [105, 51, 50, 46, 103, 116, 95, 115], [105, 51, 50, 46, 103, 116, 95, 117], [105, 51, 50, 46, 108, 101, 95, 115], [105, 51, 50, 46, 108, 101, 95, 117], [105, 51, 50, 46, 103, 101, 95, 115], [105, 51, 50, 46, 103, 101, 95, 117]]
def TN4 : List (List UInt8) := [[105, 54, 52, 46, 101, 113, 122], [105, 54, 52, 46, 101, 113], [105, 54, 52, 46, 110, 101], [105, 54, 52, 46, 108, 116, 95, 115], [105, 54, 52, 46, 108, 116, 95, 117], [105, 54, 52, 46, 103, 116, 95, 115], [105, 54, 52, 46, 103, 116, 95, 117], [105, 54, 52, 46, 108, 101, 95, 115], [105, 54, 52, 46, 108, 101, 95, 117], [105, 54, 52, 46, 103, 101, 95, 115], [105, 54, 52, 46, 103, 101, 95, 117], [], [], [], [], [], [], [], [], []]
def TN5 : List (List UInt8) := [[], [], [], [105, 51, 50, 46, 99, 108, 122], [105, 51, 50, 46, 99, 116, 122], [105, 51, 50, 46, 112, 111, 112, 99, 110, 116], [105, 51, 50, 46, 97, 100, 100], [105, 51, 50, 46, 115, 117, 98], [105, 51, 50, 46, 109, 117, 108], [105, 51, 50, 46, 100, 105, 118, 95, 115], [105, 51, 50, 46, 100, 105, 118, 95, 117], [105, 51, 50, 46, 114, 101, 109, 95, 115], [105, 51, 50, 46, 114, 101, 109, 95, 117], [105, 51, 50, 46, 97, 110, 100], [105, 51, 50, 46, 111, 114], [105, 51, 50, 46, 120, 111, 114], [105, 51, 50, 46, 115, 104, 108], [105, 51, 50, 46, 115, 104, 114, 95, 115], [105, 51, 50, 46, 115, 104, 114, 95, 117], [105, 51, 50, 46, 114, 111, 116, 108]]
def TN6 : List (List UInt8) := [[105, 51, 50, 46, 114, 111, 116, 114], [105, 54, 52, 46, 99, 108, 122], [105, 54, 52, 46, 99, 116, 122], [105, 54, 52, 46, 112, 111, 112, 99, 110, 116], [105, 54, 52, 46, 97, 100, 100], [105, 54, 52, 46, 115, 117, 98], [105, 54, 52, 46, 109, 117, 108], [105, 54, 52, 46, 100, 105, 118, 95, 115], [105, 54, 52, 46, 100, 105, 118, 95, 117], [105, 54, 52, 46, 114, 101, 109, 95, 115], [105, 54, 52, 46, 114, 101, 109, 95, 117], [105, 54, 52, 46, 97, 110, 100], [105, 54, 52, 46, 111, 114], [105, 54, 52, 46, 120, 111, 114], [105, 54, 52, 46, 115, 104, 108], [105, 54, 52, 46, 115, 104, 114, 95, 115], [105, 54, 52, 46, 115, 104, 114, 95, 117], [105, 54, 52, 46, 114, 111, 116, 108], [105, 54, 52, 46, 114, 111, 116, 114], []]
def TN7 : List (List UInt8) := [[], [], [], [], [], [], [], [], [], [], [], [], [], [], [], [], [], [], [], []]
def TN8 : List (List UInt8) := [[], [], [], [], [], [], [], [105, 51, 50, 46, 119, 114, 97, 112, 95, 105, 54, 52], [], [], [], [], [105, 54, 52, 46, 101, 120, 116, 101, 110, 100, 95, 105, 51, 50, 95, 115], [105, 54, 52, 46, 101, 120, 116, 101, 110, 100, 95, 105, 51, 50, 95, 117], [], [], [], [], [], []]
def TN9 : List (List UInt8) := [[], [], [], [], [], [], [], [], [], [], [], [], [105, 51, 50, 46, 101, 120, 116, 101, 110, 100, 56, 95, 115], [105, 51, 50, 46, 101, 120, 116, 101, 110, 100, 49, 54, 95, 115], [105, 54, 52, 46, 101, 120, 116, 101, 110, 100, 56, 95, 115], [105, 54, 52, 46, 101, 120, 116, 101, 110, 100, 49, 54, 95, 115], [105, 54, 52, 46, 101, 120, 116, 101, 110, 100, 51, 50, 95, 115]]
def TN : List (List UInt8) := TN0 ++ TN1 ++ TN2 ++ TN3 ++ TN4 ++ TN5 ++ TN6 ++ TN7 ++ TN8 ++ TN9
theorem TN_length : TN.length = 197 := by kernel_rfl
def NT : Array Value := (TN.map fun l => Value.string ⟨l.toArray⟩).toArray
/-- the name that the document has for a code -/
def nameL (code : Int) : List UInt8 := if code = 64522 then [109, 101, 109, 111, 114, 121, 46, 99, 111, 112, 121] else if code = 64523 then [109, 101, 109, 111, 114, 121, 46, 102, 105, 108, 108] else if 0 ≤ code ∧ code ≤ 196 then TN.getD code.toNat [] else []
end Go.Proofs.YtggfaalodojjkaaGreatDoor
/-
  The document's Name.
-/
namespace Go.Proofs.YtggfaalodojjkaaGreatDoor
open Go.RowKit Go.ChangeShapes Go.WideShapes Go.ChangeAt
set_option linter.unusedVariables false
set_option linter.unusedSimpArgs false
set_option maxHeartbeats 8000000 in
set_option maxRecDepth 100000 in
theorem RName_in (k : Nat) (hk : k ≤ 196) (w : World) : Calls Tryz.prog 36 #[.int .i64 k] w fun e w' => e = .returned (.string ⟨(TN.getD k []).toArray⟩) ∧ w.alloc (.cells NT 9) = w' := by
  obtain ⟨i9, hi9, hz9, hs9, _⟩ := info_parts info9
  have hcell : (w.alloc (.cells NT 9)).cell? ⟨w.heap.size, k, none⟩ = some (.string ⟨(TN.getD k []).toArray⟩) := by
    rw [(Blk.new w 9 NT).cell k]
    unfold NT
    have hl : k < TN.length := by rw [TN_length]; omega
    rw [List.getElem?_toArray, List.getElem?_map, List.getElem?_eq_getElem hl, List.getD_eq_getElem?_getD, List.getElem?_eq_getElem hl]; rfl
  generalize (TN.getD k []) = nm at hcell
  have h1 : (((k : Nat) : Int) == 64522) = false := by simp; omega
  have h2 : (((k : Nat) : Int) == 64523) = false := by simp; omega
  go_enter Tryz.func36, Tryz.ntmps36
  go_wp2_with (with_reducible refine wpList_buildSlice rfl 73 9 197 _ rfl NT i9 (.string ⟨#[]⟩) Tryz.underlying73 hi9 hz9 ?e1 ?e2 ?e3 ?_
               case e1 => rw [hs9]; decide
               case e2 => rw [hs9]; decide
               case e3 => rw [hs9]; kernel_rfl)
  go_ret
  exact ⟨rfl, rfl⟩
set_option maxHeartbeats 8000000 in
set_option maxRecDepth 100000 in
theorem RName_copy (w : World) : Calls Tryz.prog 36 #[.int .i64 64522] w fun e w' => e = .returned (.string ⟨#[109, 101, 109, 111, 114, 121, 46, 99, 111, 112, 121]⟩) ∧ w = w' := by
  go_enter Tryz.func36, Tryz.ntmps36
  go_wp2_with fail
  go_ret
  exact ⟨rfl, rfl⟩
set_option maxHeartbeats 8000000 in
set_option maxRecDepth 100000 in
theorem RName_fill (w : World) : Calls Tryz.prog 36 #[.int .i64 64523] w fun e w' => e = .returned (.string ⟨#[109, 101, 109, 111, 114, 121, 46, 102, 105, 108, 108]⟩) ∧ w = w' := by
  go_enter Tryz.func36, Tryz.ntmps36
  go_wp2_with fail
  go_ret
  exact ⟨rfl, rfl⟩
set_option maxHeartbeats 8000000 in
set_option maxRecDepth 100000 in
theorem RName_lo (c : Int) (h : c < 0) (hb : -9223372036854775808 ≤ c) (w : World) : Calls Tryz.prog 36 #[.int .i64 c] w fun e w' => e = .returned (.string ⟨#[]⟩) ∧ w = w' := by
  have h1 : (c == 64522) = false := by simp; omega
  have h2 : (c == 64523) = false := by simp; omega
  go_enter Tryz.func36, Tryz.ntmps36
  go_wp2_with fail
  go_ret
  exact ⟨rfl, rfl⟩
set_option maxHeartbeats 8000000 in
set_option maxRecDepth 100000 in
theorem RName_hi (c : Int) (h : 196 < c) (hb : c ≤ 9223372036854775807) (h1 : (c == 64522) = false) (h2 : (c == 64523) = false) (w : World) : Calls Tryz.prog 36 #[.int .i64 c] w fun e w' => e = .returned (.string ⟨#[]⟩) ∧ w = w' := by
  have h0 : ¬ c < 0 := by omega
  go_enter Tryz.func36, Tryz.ntmps36
  go_wp2_with fail
  go_ret
  exact ⟨rfl, rfl⟩
theorem RName_any (c : Int) (hc : (Lit.int .i64 c).wf = true) (w : World) : Calls Tryz.prog 36 #[.int .i64 c] w fun e w' => e = .returned (.string ⟨(nameL c).toArray⟩) ∧ Below w.heap.size w w' := by
  have hb := bounds_i64 hc
  by_cases h1 : c = 64522
  · subst h1
    refine (RName_copy w).mono ?_
    rintro e w' ⟨rfl, rfl⟩
    exact ⟨rfl, Below.refl _ _⟩
  · by_cases h2 : c = 64523
    · subst h2
      refine (RName_fill w).mono ?_
      rintro e w' ⟨rfl, rfl⟩
      exact ⟨rfl, Below.refl _ _⟩
    · have hn1 : (c == 64522) = false := by simpa using h1
      have hn2 : (c == 64523) = false := by simpa using h2
      by_cases h3 : 0 ≤ c ∧ c ≤ 196
      · have hn : nameL c = TN.getD c.toNat [] := by unfold nameL; rw [if_neg h1, if_neg h2, if_pos h3]
        rw [hn]
        obtain ⟨k, rfl⟩ := Int.eq_ofNat_of_zero_le h3.1
        refine (RName_in k (by omega) w).mono ?_
        rintro e w' ⟨rfl, rfl⟩
        exact ⟨rfl, (Below.refl _ _).alloc (Nat.le_refl _) _⟩
      · have hn : nameL c = [] := by unfold nameL; rw [if_neg h1, if_neg h2, if_neg h3]
        rw [hn]
        by_cases h4 : c < 0
        · refine (RName_lo c h4 hb.1 w).mono ?_
          rintro e w' ⟨rfl, rfl⟩
          exact ⟨rfl, Below.refl _ _⟩
        · refine (RName_hi c (by omega) hb.2 hn1 hn2 w).mono ?_
          rintro e w' ⟨rfl, rfl⟩
          exact ⟨rfl, Below.refl _ _⟩
/-- the document's names are the ops' -/
def CNL : List (Nat × List Nat) := OPS.map fun q => (q.1.first + q.2, (nmL q.1 q.2).map UInt8.toNat)
theorem namesB : (OPS.all fun q => (nmL q.1 q.2).map UInt8.toNat == (nameL ((q.1.first + q.2 : Nat) : Int)).map UInt8.toNat) = true := by kernel_rfl
theorem name_of {c : Int} {r : Rw} {i : Nat} (h : OpAt c r i) : nmS r i = ⟨(nameL c).toArray⟩ := by
  have h1 := List.all_eq_true.1 namesB _ h.1
  rw [beq_iff_eq] at h1
  have h2 := toNat_inj h1
  apply ba_ext
  rw [nmL_eq, h2, ← h.2]
  simp
theorem codesB : ((List.range 197).all fun k => (TN.getD k []).isEmpty || OPS.any fun q => q.1.first + q.2 == k) = true := by kernel_rfl
theorem ops2 : (OPS.any fun q => q.1.first + q.2 == 64522) = true ∧ (OPS.any fun q => q.1.first + q.2 == 64523) = true := ⟨by kernel_rfl, by kernel_rfl⟩
theorem any_op {k : Nat} (h : (OPS.any fun q => q.1.first + q.2 == k) = true) : ∃ r i, OpAt (k : Int) r i := by
  obtain ⟨⟨r, i⟩, hm, he⟩ := List.any_eq_true.1 h
  exact ⟨r, i, hm, by rw [beq_iff_eq] at he; simp only at he; omega⟩
/-- a code of which there is no op has no name -/
theorem name_no {c : Int} (h : ∀ r i, ¬ OpAt c r i) : nameL c = [] := by
  unfold nameL
  split
  · rename_i e
    obtain ⟨r, i, ho⟩ := any_op ops2.1
    exact absurd (by rw [e]; exact ho) (h r i)
  · split
    · rename_i e
      obtain ⟨r, i, ho⟩ := any_op ops2.2
      exact absurd (by rw [e]; exact ho) (h r i)
    · split
      · rename_i h3
        obtain ⟨k, rfl⟩ := Int.eq_ofNat_of_zero_le h3.1
        have h4 := List.all_eq_true.1 codesB k (by simp; omega)
        rcases Bool.or_eq_true_iff.1 h4 with h5 | h5
        · simpa using h5
        · obtain ⟨r, i, ho⟩ := any_op h5
          exact absurd ho (h r i)
      · rfl
theorem nonemptyB : (OPS.all fun q => !(nmL q.1 q.2).isEmpty) = true := by kernel_rfl
theorem name_ne {c : Int} {r : Rw} {i : Nat} (h : OpAt c r i) : nameL c ≠ [] := by
  have h1 := List.all_eq_true.1 nonemptyB _ h.1
  have h2 := name_of h
  intro e
  rw [e] at h2
  have := nmL_eq r i
  rw [h2] at this
  simp only at this
  rw [← this] at h1
  simp at h1
end Go.Proofs.YtggfaalodojjkaaGreatDoor
/-
  op.Width, op.Foreign, and the document's Width, Foreign, Form.
-/
namespace Go.Proofs.YtggfaalodojjkaaGreatDoor
open Go.RowKit Go.ChangeShapes Go.WideShapes Go.ChangeAt
set_option linter.unusedVariables false
set_option linter.unusedSimpArgs false
def formL (c : Int) : Int :=
  if 2 ≤ c ∧ c ≤ 4 then 1 else if c = 12 ∨ c = 13 then 2 else if c = 14 then 3 else if c = 16 then 4 else if c = 17 then 5
  else if 32 ≤ c ∧ c ≤ 34 then 6 else if c = 35 ∨ c = 36 then 7 else if 40 ≤ c ∧ c ≤ 62 then 8 else if c = 63 ∨ c = 64 ∨ c = 64523 then 9 else if c = 64522 then 10 else if c = 65 ∨ c = 66 then 11 else 0
theorem i64_ret {a b : Int} (h : a = b) : Ending.returned (.int .i64 a) = .returned (.int .i64 b) := by rw [h]
theorem fm0 (c : Int)  (p : 2 ≤ c ∧ c ≤ 4) : formL c = 1 := by
  unfold formL
  rw [if_pos p]
theorem fm1 (c : Int) (n0 : ¬ (2 ≤ c ∧ c ≤ 4)) (p : c = 12 ∨ c = 13) : formL c = 2 := by
  unfold formL
  rw [if_neg n0, if_pos p]
theorem fm2 (c : Int) (n0 : ¬ (2 ≤ c ∧ c ≤ 4)) (n1 : ¬ (c = 12 ∨ c = 13)) (p : c = 14) : formL c = 3 := by
  unfold formL
  rw [if_neg n0, if_neg n1, if_pos p]
theorem fm3 (c : Int) (n0 : ¬ (2 ≤ c ∧ c ≤ 4)) (n1 : ¬ (c = 12 ∨ c = 13)) (n2 : ¬ (c = 14)) (p : c = 16) : formL c = 4 := by
  unfold formL
  rw [if_neg n0, if_neg n1, if_neg n2, if_pos p]
theorem fm4 (c : Int) (n0 : ¬ (2 ≤ c ∧ c ≤ 4)) (n1 : ¬ (c = 12 ∨ c = 13)) (n2 : ¬ (c = 14)) (n3 : ¬ (c = 16)) (p : c = 17) : formL c = 5 := by
  unfold formL
  rw [if_neg n0, if_neg n1, if_neg n2, if_neg n3, if_pos p]
theorem fm5 (c : Int) (n0 : ¬ (2 ≤ c ∧ c ≤ 4)) (n1 : ¬ (c = 12 ∨ c = 13)) (n2 : ¬ (c = 14)) (n3 : ¬ (c = 16)) (n4 : ¬ (c = 17)) (p : 32 ≤ c ∧ c ≤ 34) : formL c = 6 := by
  unfold formL
  rw [if_neg n0, if_neg n1, if_neg n2, if_neg n3, if_neg n4, if_pos p]
theorem fm6 (c : Int) (n0 : ¬ (2 ≤ c ∧ c ≤ 4)) (n1 : ¬ (c = 12 ∨ c = 13)) (n2 : ¬ (c = 14)) (n3 : ¬ (c = 16)) (n4 : ¬ (c = 17)) (n5 : ¬ (32 ≤ c ∧ c ≤ 34)) (p : c = 35 ∨ c = 36) : formL c = 7 := by
  unfold formL
  rw [if_neg n0, if_neg n1, if_neg n2, if_neg n3, if_neg n4, if_neg n5, if_pos p]
theorem fm7 (c : Int) (n0 : ¬ (2 ≤ c ∧ c ≤ 4)) (n1 : ¬ (c = 12 ∨ c = 13)) (n2 : ¬ (c = 14)) (n3 : ¬ (c = 16)) (n4 : ¬ (c = 17)) (n5 : ¬ (32 ≤ c ∧ c ≤ 34)) (n6 : ¬ (c = 35 ∨ c = 36)) (p : 40 ≤ c ∧ c ≤ 62) : formL c = 8 := by
  unfold formL
  rw [if_neg n0, if_neg n1, if_neg n2, if_neg n3, if_neg n4, if_neg n5, if_neg n6, if_pos p]
theorem fm8 (c : Int) (n0 : ¬ (2 ≤ c ∧ c ≤ 4)) (n1 : ¬ (c = 12 ∨ c = 13)) (n2 : ¬ (c = 14)) (n3 : ¬ (c = 16)) (n4 : ¬ (c = 17)) (n5 : ¬ (32 ≤ c ∧ c ≤ 34)) (n6 : ¬ (c = 35 ∨ c = 36)) (n7 : ¬ (40 ≤ c ∧ c ≤ 62)) (p : c = 63 ∨ c = 64 ∨ c = 64523) : formL c = 9 := by
  unfold formL
  rw [if_neg n0, if_neg n1, if_neg n2, if_neg n3, if_neg n4, if_neg n5, if_neg n6, if_neg n7, if_pos p]
theorem fm9 (c : Int) (n0 : ¬ (2 ≤ c ∧ c ≤ 4)) (n1 : ¬ (c = 12 ∨ c = 13)) (n2 : ¬ (c = 14)) (n3 : ¬ (c = 16)) (n4 : ¬ (c = 17)) (n5 : ¬ (32 ≤ c ∧ c ≤ 34)) (n6 : ¬ (c = 35 ∨ c = 36)) (n7 : ¬ (40 ≤ c ∧ c ≤ 62)) (n8 : ¬ (c = 63 ∨ c = 64 ∨ c = 64523)) (p : c = 64522) : formL c = 10 := by
  unfold formL
  rw [if_neg n0, if_neg n1, if_neg n2, if_neg n3, if_neg n4, if_neg n5, if_neg n6, if_neg n7, if_neg n8, if_pos p]
theorem fm10 (c : Int) (n0 : ¬ (2 ≤ c ∧ c ≤ 4)) (n1 : ¬ (c = 12 ∨ c = 13)) (n2 : ¬ (c = 14)) (n3 : ¬ (c = 16)) (n4 : ¬ (c = 17)) (n5 : ¬ (32 ≤ c ∧ c ≤ 34)) (n6 : ¬ (c = 35 ∨ c = 36)) (n7 : ¬ (40 ≤ c ∧ c ≤ 62)) (n8 : ¬ (c = 63 ∨ c = 64 ∨ c = 64523)) (n9 : ¬ (c = 64522)) (p : c = 65 ∨ c = 66) : formL c = 11 := by
  unfold formL
  rw [if_neg n0, if_neg n1, if_neg n2, if_neg n3, if_neg n4, if_neg n5, if_neg n6, if_neg n7, if_neg n8, if_neg n9, if_pos p]
theorem fm11 (c : Int) (n0 : ¬ (2 ≤ c ∧ c ≤ 4)) (n1 : ¬ (c = 12 ∨ c = 13)) (n2 : ¬ (c = 14)) (n3 : ¬ (c = 16)) (n4 : ¬ (c = 17)) (n5 : ¬ (32 ≤ c ∧ c ≤ 34)) (n6 : ¬ (c = 35 ∨ c = 36)) (n7 : ¬ (40 ≤ c ∧ c ≤ 62)) (n8 : ¬ (c = 63 ∨ c = 64 ∨ c = 64523)) (n9 : ¬ (c = 64522)) (n10 : ¬ (c = 65 ∨ c = 66)) : formL c = 0 := by
  unfold formL
  rw [if_neg n0, if_neg n1, if_neg n2, if_neg n3, if_neg n4, if_neg n5, if_neg n6, if_neg n7, if_neg n8, if_neg n9, if_neg n10]
set_option maxHeartbeats 8000000 in
set_option maxRecDepth 100000 in
theorem RForm_any (c : Int) (hb : -9223372036854775808 ≤ c ∧ c ≤ 9223372036854775807) (w : World) : Calls Tryz.prog 37 #[.int .i64 c] w fun e w' => e = .returned (.int .i64 (formL c)) ∧ w = w' := by
  obtain ⟨q, HQ⟩ : ∃ q, Hid (q = c) := ⟨_, Lib.hid rfl⟩
  rw [show formL c = formL q by rw [HQ.out]]
  go_enter Tryz.func37, Tryz.ntmps37
  go_wp2_with fail
  all_goals
    go_ret
    have hqc := HQ.out
    try simp only [beq_iff_eq, beq_eq_false_iff_ne, ne_eq] at *
    first
    | (exfalso; omega)
    | (refine ⟨i64_ret ?_, by first | rfl | trivial⟩
       first
       | (rw [fm0 q]; rotate_left; omega)
       | (rw [fm1 q]; rotate_left; omega; omega)
       | (rw [fm2 q]; rotate_left; omega; omega; omega)
       | (rw [fm3 q]; rotate_left; omega; omega; omega; omega)
       | (rw [fm4 q]; rotate_left; omega; omega; omega; omega; omega)
       | (rw [fm5 q]; rotate_left; omega; omega; omega; omega; omega; omega)
       | (rw [fm6 q]; rotate_left; omega; omega; omega; omega; omega; omega; omega)
       | (rw [fm7 q]; rotate_left; omega; omega; omega; omega; omega; omega; omega; omega)
       | (rw [fm8 q]; rotate_left; omega; omega; omega; omega; omega; omega; omega; omega; omega)
       | (rw [fm9 q]; rotate_left; omega; omega; omega; omega; omega; omega; omega; omega; omega; omega)
       | (rw [fm10 q]; rotate_left; omega; omega; omega; omega; omega; omega; omega; omega; omega; omega; omega)
       | (rw [fm11 q]; rotate_left; omega; omega; omega; omega; omega; omega; omega; omega; omega; omega; omega))
end Go.Proofs.YtggfaalodojjkaaGreatDoor
/-
  the document's Right of an instruction.
-/
namespace Go.Proofs.YtggfaalodojjkaaGreatDoor
open Go.RowKit
set_option linter.unusedVariables false
set_option linter.unusedSimpArgs false
/-- what the document asks of an instruction whose op there is, of this form -/
def rgB (x : In) (f : Int) : Bool :=
  !((decide (f ≠ 11) && decide (4294967295 < x.a)) || (decide (x.cd = 65) && decide (4294967295 < x.a)) || (decide (f ≠ 8) && decide (4294967295 < x.b))) &&
  !((decide (f = 0) && decide (x.a ≠ 0)) || (decide (f = 1) && decide (x.a ≠ 64) && decide (x.a ≠ 126) && decide (x.a ≠ 127))) &&
  !((decide (f ≠ 5) && decide (f ≠ 8) && decide (f ≠ 10) && decide (x.b ≠ 0)) || (decide (f ≠ 8) && decide (x.al ≠ 0)) || decide (x.al < 0) || decide (31 < x.al)) &&
  okW x.l && (decide (x.l.length = 0) || (decide (f = 3) && decide (x.l.length ≤ 100)))
end Go.Proofs.YtggfaalodojjkaaGreatDoor
/-
  the document's Right: form 0.
-/
namespace Go.Proofs.YtggfaalodojjkaaGreatDoor
open Go.RowKit
set_option linter.unusedVariables false
set_option linter.unusedSimpArgs false
set_option maxHeartbeats 4000000 in
set_option maxRecDepth 100000 in
theorem RRight_0 (cd a b al : Int) (A : Option Addr) (c : Nat) (l : List Int)  (w : World) (hl : Sl w A l.length c l) (nm : ByteArray) (hne : nm.toList.isEmpty = false)
    (hN : ∀ W, Calls Tryz.prog 36 #[.int .i64 cd] W fun e w' => e = .returned (.string nm) ∧ Below W.heap.size W w') (hF : ∀ W, Calls Tryz.prog 37 #[.int .i64 cd] W fun e w' => e = .returned (.int .i64 (0 : Int)) ∧ W = w') :
    Calls Tryz.prog 11 #[.agg #[.int .i64 cd, .int .u64 a, .int .u64 b, .int .i64 al, .slice A l.length c]] w fun e w' => e = .returned (.bool (rgB ⟨cd, a, b, al, l⟩ (0 : Int))) ∧ Below w.heap.size w w' := by
  obtain ⟨W0, hW0⟩ : ∃ V, V = w.alloc (.cells #[.int .i64 cd, .int .u64 a, .int .u64 b, .int .i64 al, .slice A l.length c] 25) := ⟨_, rfl⟩
  have hb0 : Below w.heap.size w W0 := by rw [hW0]; exact (Below.refl _ _).alloc (Nat.le_refl _) _
  have hX0 : Blk W0 w.heap.size 25 #[.int .i64 cd, .int .u64 a, .int .u64 b, .int .i64 al, .slice A l.length c] := by rw [hW0]; exact Blk.new w 25 _
  have HB0 := Lib.hid hb0
  have HW0 := Lib.hid hW0
  have HN := Lib.hid (hN W0)
  have HF := Lib.hid hF
  have hnc := hl.2.1
  have hcm := hl.2.2.1
  unfold maxLen at hcm
  have HSL : Hid (∀ V, Below W0.heap.size W0 V → Sl V A l.length c l) := Lib.hid (fun V hV => hl.below (hb0.trans (hV.mono hb0.size)))
  have HK : Hid (∀ V, Below W0.heap.size W0 V → V.cell? ⟨w.heap.size, 0, none⟩ = some (.int .i64 cd) ∧ V.cell? ⟨w.heap.size, 1, none⟩ = some (.int .u64 a) ∧ V.cell? ⟨w.heap.size, 2, none⟩ = some (.int .u64 b) ∧ V.cell? ⟨w.heap.size, 3, none⟩ = some (.int .i64 al) ∧ V.cell? ⟨w.heap.size, 4, none⟩ = some (.slice A l.length c)) := Lib.hid (fun V hV => by
    have hx := hX0.below hV hX0.lt
    exact ⟨hx.cell 0, hx.cell 1, hx.cell 2, hx.cell 3, hx.cell 4⟩)
  have x0 : W0.cell? ⟨w.heap.size, 0, none⟩ = some (.int .i64 cd) := hX0.cell 0
  clear hb0 hX0 hW0 hN hF hl
  by_cases pA : 4294967295 < a
  · have hr : rgB ⟨cd, a, b, al, l⟩ (0 : Int) = false := by simp [rgB, *]
    rw [hr]
    clear hr
    try clear za
    try clear zb
    try clear zal
    try clear h64
    try clear h126
    try clear h127
    try clear p65
    go_enter Tryz.func11, Tryz.ntmps11
    go_upto_region 1 with fail
    rw [← HW0.out]
    go_wp2_with (first
      | (go_at_call 36; (with_reducible refine HN.out.mono ?_); rintro e w1 ⟨rfl, hb1⟩
         have HB1 := Lib.hid hb1
         obtain ⟨y0, y1, y2, y3, y4⟩ := HK.out w1 hb1
         clear hb1)
      | (go_at_call 37; (with_reducible refine (HF.out _).mono ?_); rintro e w2 ⟨rfl, rfl⟩))
    all_goals
      go_ret
      exact ⟨rfl, HB0.out.trans (HB1.out.mono HB0.out.size)⟩
  by_cases pB : 4294967295 < b
  · have hr : rgB ⟨cd, a, b, al, l⟩ (0 : Int) = false := by simp [rgB, *]
    rw [hr]
    clear hr
    try clear za
    try clear zb
    try clear zal
    try clear h64
    try clear h126
    try clear h127
    try clear p65
    go_enter Tryz.func11, Tryz.ntmps11
    go_upto_region 1 with fail
    rw [← HW0.out]
    go_wp2_with (first
      | (go_at_call 36; (with_reducible refine HN.out.mono ?_); rintro e w1 ⟨rfl, hb1⟩
         have HB1 := Lib.hid hb1
         obtain ⟨y0, y1, y2, y3, y4⟩ := HK.out w1 hb1
         clear hb1)
      | (go_at_call 37; (with_reducible refine (HF.out _).mono ?_); rintro e w2 ⟨rfl, rfl⟩))
    all_goals
      go_ret
      exact ⟨rfl, HB0.out.trans (HB1.out.mono HB0.out.size)⟩
  by_cases za : a = 0
  case neg =>
    have na : (a != 0) = true := by simp [za]
    have hr : rgB ⟨cd, a, b, al, l⟩ (0 : Int) = false := by simp [rgB, *]
    rw [hr]
    clear hr
    try clear za
    try clear zb
    try clear zal
    try clear h64
    try clear h126
    try clear h127
    try clear p65
    go_enter Tryz.func11, Tryz.ntmps11
    go_upto_region 1 with fail
    rw [← HW0.out]
    go_wp2_with (first
      | (go_at_call 36; (with_reducible refine HN.out.mono ?_); rintro e w1 ⟨rfl, hb1⟩
         have HB1 := Lib.hid hb1
         obtain ⟨y0, y1, y2, y3, y4⟩ := HK.out w1 hb1
         clear hb1)
      | (go_at_call 37; (with_reducible refine (HF.out _).mono ?_); rintro e w2 ⟨rfl, rfl⟩))
    all_goals
      go_ret
      exact ⟨rfl, HB0.out.trans (HB1.out.mono HB0.out.size)⟩
  have na : (a != 0) = false := by simp [za]
  by_cases zb : b = 0
  case neg =>
    have nb : (b != 0) = true := by simp [zb]
    have hr : rgB ⟨cd, a, b, al, l⟩ (0 : Int) = false := by simp [rgB, *]
    rw [hr]
    clear hr
    try clear za
    try clear zb
    try clear zal
    try clear h64
    try clear h126
    try clear h127
    try clear p65
    go_enter Tryz.func11, Tryz.ntmps11
    go_upto_region 1 with fail
    rw [← HW0.out]
    go_wp2_with (first
      | (go_at_call 36; (with_reducible refine HN.out.mono ?_); rintro e w1 ⟨rfl, hb1⟩
         have HB1 := Lib.hid hb1
         obtain ⟨y0, y1, y2, y3, y4⟩ := HK.out w1 hb1
         clear hb1)
      | (go_at_call 37; (with_reducible refine (HF.out _).mono ?_); rintro e w2 ⟨rfl, rfl⟩))
    all_goals
      go_ret
      exact ⟨rfl, HB0.out.trans (HB1.out.mono HB0.out.size)⟩
  have nb : (b != 0) = false := by simp [zb]
  by_cases zal : al = 0
  case neg =>
    have nal : (al != 0) = true := by simp [zal]
    have hr : rgB ⟨cd, a, b, al, l⟩ (0 : Int) = false := by simp [rgB, *]
    rw [hr]
    clear hr
    try clear za
    try clear zb
    try clear zal
    try clear h64
    try clear h126
    try clear h127
    try clear p65
    go_enter Tryz.func11, Tryz.ntmps11
    go_upto_region 1 with fail
    rw [← HW0.out]
    go_wp2_with (first
      | (go_at_call 36; (with_reducible refine HN.out.mono ?_); rintro e w1 ⟨rfl, hb1⟩
         have HB1 := Lib.hid hb1
         obtain ⟨y0, y1, y2, y3, y4⟩ := HK.out w1 hb1
         clear hb1)
      | (go_at_call 37; (with_reducible refine (HF.out _).mono ?_); rintro e w2 ⟨rfl, rfl⟩))
    all_goals
      go_ret
      exact ⟨rfl, HB0.out.trans (HB1.out.mono HB0.out.size)⟩
  have nal : (al != 0) = false := by simp [zal]
  have pM : ¬ al < 0 := by omega
  have pL : ¬ 31 < al := by omega
  have hr : rgB ⟨cd, a, b, al, l⟩ (0 : Int) = (okW l && (decide (l.length = 0) || (decide ((0 : Int) = 3) && decide (l.length ≤ 100)))) := by
    simp [rgB, *]
  rw [hr]
  obtain ⟨R, hR⟩ : ∃ R, R = (okW l && (decide (l.length = 0) || (decide ((0 : Int) = 3) && decide (l.length ≤ 100)))) := ⟨_, rfl⟩
  rw [← hR]
  have HRR := Lib.hid hR
  clear hr hR
  try clear p65
  obtain ⟨q65, r65⟩ : ∃ q, (cd == 65) = q := ⟨_, rfl⟩
  cases q65
  all_goals
    try clear za
    try clear zb
    try clear zal
    try clear h64
    try clear h126
    try clear h127
    try clear p65
    go_enter Tryz.func11, Tryz.ntmps11
    go_upto_region 1 with fail
    rw [← HW0.out]
    go_wp2_with (first
      | (go_at_call 36; (with_reducible refine HN.out.mono ?_); rintro e w1 ⟨rfl, hb1⟩
         have HB1 := Lib.hid hb1
         obtain ⟨y0, y1, y2, y3, y4⟩ := HK.out w1 hb1
         clear hb1)
      | (go_at_call 37; (with_reducible refine (HF.out _).mono ?_); rintro e w2 ⟨rfl, rfl⟩))
    go_loopw [4] (fun v4 wr => ∃ k : Nat, k ≤ l.length ∧ v4 = .int .i64 k ∧ Hid ((l.take k).all (fun z => !decide (4294967295 < z)) = true) ∧ Hid (wr = w1)) (fun v4 _ => l.length - (intOf v4).toNat)
    case atStart => exact ⟨0, by omega, rfl, Lib.hid rfl, Lib.hid rfl⟩
    case round =>
      obtain ⟨k, hk, rfl, HA, HD⟩ := hrel
      obtain rfl := HD.out
      clear HD
      by_cases hlt : k < l.length
      · obtain ⟨g1, off, rfl, hbl, hcell⟩ := (HSL.out wr HB1.out).2.2.2 (by omega)
        have h0 : wr.cell? ⟨g1, off + k, none⟩ = some (.int .u64 (l.getD k 0)) := hcell k hlt
        have HT := Lib.hid (fun h => all_take_i (f := fun z => !decide (4294967295 < z)) hlt HA.out h)
        have HNO : Hid (4294967295 < l.getD k 0 → okW l = false) := Lib.hid (fun h => by
          have hm : l.getD k 0 ∈ l := by rw [List.getD_eq_getElem?_getD, List.getElem?_eq_getElem hlt]; exact List.getElem_mem hlt
          unfold okW
          rw [List.all_eq_false]
          exact ⟨_, hm, by simpa using h⟩)
        clear hcell
        generalize l.getD k 0 = z at h0 HT HNO
        by_cases hz : 4294967295 < z
        · have HO : Hid (R = false) := Lib.hid (by rw [HRR.out, HNO.out hz]; rfl)
          go_wp2
          go_ret
          exact ⟨by rw [HO.out]; rfl, HB0.out.trans (HB1.out.mono HB0.out.size)⟩
        · have HA2 := Lib.hid (HT.out (by simpa using hz))
          go_wp2
          go_roundw
          case rel => exact ⟨k + 1, by omega, by go_num, HA2, Lib.hid (by trivial)⟩
          case measure => simp [intOf]; omega
      · obtain rfl : k = l.length := by omega
        have HO : Hid (okW l = true) := Lib.hid (by have h := HA.out; rwa [List.take_of_length_le (Nat.le_refl _)] at h)
        by_cases hl0 : l.length = 0
        · have HR : Hid (R = true) := Lib.hid (by rw [HRR.out, HO.out]; simp [hl0])
          have hl1 : ((l.length : Int) == 0) = true := by rw [hl0]; rfl
          go_wp2
          go_ret
          exact ⟨by rw [HR.out]; rfl, HB0.out.trans (HB1.out.mono HB0.out.size)⟩
        · have hl1 : ((l.length : Int) == 0) = false := by rw [beq_eq_false_iff_ne]; omega
          have HR : Hid (R = false) := Lib.hid (by rw [HRR.out]; simp [hl0, *])
          go_wp2
          go_ret
          exact ⟨by rw [HR.out]; rfl, HB0.out.trans (HB1.out.mono HB0.out.size)⟩
end Go.Proofs.YtggfaalodojjkaaGreatDoor
/-
  the document's Right: form 3.
-/
namespace Go.Proofs.YtggfaalodojjkaaGreatDoor
open Go.RowKit
set_option linter.unusedVariables false
set_option linter.unusedSimpArgs false
set_option maxHeartbeats 4000000 in
set_option maxRecDepth 100000 in
theorem RRight_3 (cd a b al : Int) (A : Option Addr) (c : Nat) (l : List Int)  (w : World) (hl : Sl w A l.length c l) (nm : ByteArray) (hne : nm.toList.isEmpty = false)
    (hN : ∀ W, Calls Tryz.prog 36 #[.int .i64 cd] W fun e w' => e = .returned (.string nm) ∧ Below W.heap.size W w') (hF : ∀ W, Calls Tryz.prog 37 #[.int .i64 cd] W fun e w' => e = .returned (.int .i64 (3 : Int)) ∧ W = w') :
    Calls Tryz.prog 11 #[.agg #[.int .i64 cd, .int .u64 a, .int .u64 b, .int .i64 al, .slice A l.length c]] w fun e w' => e = .returned (.bool (rgB ⟨cd, a, b, al, l⟩ (3 : Int))) ∧ Below w.heap.size w w' := by
  obtain ⟨W0, hW0⟩ : ∃ V, V = w.alloc (.cells #[.int .i64 cd, .int .u64 a, .int .u64 b, .int .i64 al, .slice A l.length c] 25) := ⟨_, rfl⟩
  have hb0 : Below w.heap.size w W0 := by rw [hW0]; exact (Below.refl _ _).alloc (Nat.le_refl _) _
  have hX0 : Blk W0 w.heap.size 25 #[.int .i64 cd, .int .u64 a, .int .u64 b, .int .i64 al, .slice A l.length c] := by rw [hW0]; exact Blk.new w 25 _
  have HB0 := Lib.hid hb0
  have HW0 := Lib.hid hW0
  have HN := Lib.hid (hN W0)
  have HF := Lib.hid hF
  have hnc := hl.2.1
  have hcm := hl.2.2.1
  unfold maxLen at hcm
  have HSL : Hid (∀ V, Below W0.heap.size W0 V → Sl V A l.length c l) := Lib.hid (fun V hV => hl.below (hb0.trans (hV.mono hb0.size)))
  have HK : Hid (∀ V, Below W0.heap.size W0 V → V.cell? ⟨w.heap.size, 0, none⟩ = some (.int .i64 cd) ∧ V.cell? ⟨w.heap.size, 1, none⟩ = some (.int .u64 a) ∧ V.cell? ⟨w.heap.size, 2, none⟩ = some (.int .u64 b) ∧ V.cell? ⟨w.heap.size, 3, none⟩ = some (.int .i64 al) ∧ V.cell? ⟨w.heap.size, 4, none⟩ = some (.slice A l.length c)) := Lib.hid (fun V hV => by
    have hx := hX0.below hV hX0.lt
    exact ⟨hx.cell 0, hx.cell 1, hx.cell 2, hx.cell 3, hx.cell 4⟩)
  have x0 : W0.cell? ⟨w.heap.size, 0, none⟩ = some (.int .i64 cd) := hX0.cell 0
  clear hb0 hX0 hW0 hN hF hl
  by_cases pA : 4294967295 < a
  · have hr : rgB ⟨cd, a, b, al, l⟩ (3 : Int) = false := by simp [rgB, *]
    rw [hr]
    clear hr
    try clear za
    try clear zb
    try clear zal
    try clear h64
    try clear h126
    try clear h127
    try clear p65
    go_enter Tryz.func11, Tryz.ntmps11
    go_upto_region 1 with fail
    rw [← HW0.out]
    go_wp2_with (first
      | (go_at_call 36; (with_reducible refine HN.out.mono ?_); rintro e w1 ⟨rfl, hb1⟩
         have HB1 := Lib.hid hb1
         obtain ⟨y0, y1, y2, y3, y4⟩ := HK.out w1 hb1
         clear hb1)
      | (go_at_call 37; (with_reducible refine (HF.out _).mono ?_); rintro e w2 ⟨rfl, rfl⟩))
    all_goals
      go_ret
      exact ⟨rfl, HB0.out.trans (HB1.out.mono HB0.out.size)⟩
  by_cases pB : 4294967295 < b
  · have hr : rgB ⟨cd, a, b, al, l⟩ (3 : Int) = false := by simp [rgB, *]
    rw [hr]
    clear hr
    try clear za
    try clear zb
    try clear zal
    try clear h64
    try clear h126
    try clear h127
    try clear p65
    go_enter Tryz.func11, Tryz.ntmps11
    go_upto_region 1 with fail
    rw [← HW0.out]
    go_wp2_with (first
      | (go_at_call 36; (with_reducible refine HN.out.mono ?_); rintro e w1 ⟨rfl, hb1⟩
         have HB1 := Lib.hid hb1
         obtain ⟨y0, y1, y2, y3, y4⟩ := HK.out w1 hb1
         clear hb1)
      | (go_at_call 37; (with_reducible refine (HF.out _).mono ?_); rintro e w2 ⟨rfl, rfl⟩))
    all_goals
      go_ret
      exact ⟨rfl, HB0.out.trans (HB1.out.mono HB0.out.size)⟩
  by_cases zb : b = 0
  case neg =>
    have nb : (b != 0) = true := by simp [zb]
    have hr : rgB ⟨cd, a, b, al, l⟩ (3 : Int) = false := by simp [rgB, *]
    rw [hr]
    clear hr
    try clear za
    try clear zb
    try clear zal
    try clear h64
    try clear h126
    try clear h127
    try clear p65
    go_enter Tryz.func11, Tryz.ntmps11
    go_upto_region 1 with fail
    rw [← HW0.out]
    go_wp2_with (first
      | (go_at_call 36; (with_reducible refine HN.out.mono ?_); rintro e w1 ⟨rfl, hb1⟩
         have HB1 := Lib.hid hb1
         obtain ⟨y0, y1, y2, y3, y4⟩ := HK.out w1 hb1
         clear hb1)
      | (go_at_call 37; (with_reducible refine (HF.out _).mono ?_); rintro e w2 ⟨rfl, rfl⟩))
    all_goals
      go_ret
      exact ⟨rfl, HB0.out.trans (HB1.out.mono HB0.out.size)⟩
  have nb : (b != 0) = false := by simp [zb]
  by_cases zal : al = 0
  case neg =>
    have nal : (al != 0) = true := by simp [zal]
    have hr : rgB ⟨cd, a, b, al, l⟩ (3 : Int) = false := by simp [rgB, *]
    rw [hr]
    clear hr
    try clear za
    try clear zb
    try clear zal
    try clear h64
    try clear h126
    try clear h127
    try clear p65
    go_enter Tryz.func11, Tryz.ntmps11
    go_upto_region 1 with fail
    rw [← HW0.out]
    go_wp2_with (first
      | (go_at_call 36; (with_reducible refine HN.out.mono ?_); rintro e w1 ⟨rfl, hb1⟩
         have HB1 := Lib.hid hb1
         obtain ⟨y0, y1, y2, y3, y4⟩ := HK.out w1 hb1
         clear hb1)
      | (go_at_call 37; (with_reducible refine (HF.out _).mono ?_); rintro e w2 ⟨rfl, rfl⟩))
    all_goals
      go_ret
      exact ⟨rfl, HB0.out.trans (HB1.out.mono HB0.out.size)⟩
  have nal : (al != 0) = false := by simp [zal]
  have pM : ¬ al < 0 := by omega
  have pL : ¬ 31 < al := by omega
  have hr : rgB ⟨cd, a, b, al, l⟩ (3 : Int) = (okW l && (decide (l.length = 0) || (decide ((3 : Int) = 3) && decide (l.length ≤ 100)))) := by
    simp [rgB, *]
  rw [hr]
  obtain ⟨R, hR⟩ : ∃ R, R = (okW l && (decide (l.length = 0) || (decide ((3 : Int) = 3) && decide (l.length ≤ 100)))) := ⟨_, rfl⟩
  rw [← hR]
  have HRR := Lib.hid hR
  clear hr hR
  try clear p65
  obtain ⟨q65, r65⟩ : ∃ q, (cd == 65) = q := ⟨_, rfl⟩
  cases q65
  all_goals
    try clear za
    try clear zb
    try clear zal
    try clear h64
    try clear h126
    try clear h127
    try clear p65
    go_enter Tryz.func11, Tryz.ntmps11
    go_upto_region 1 with fail
    rw [← HW0.out]
    go_wp2_with (first
      | (go_at_call 36; (with_reducible refine HN.out.mono ?_); rintro e w1 ⟨rfl, hb1⟩
         have HB1 := Lib.hid hb1
         obtain ⟨y0, y1, y2, y3, y4⟩ := HK.out w1 hb1
         clear hb1)
      | (go_at_call 37; (with_reducible refine (HF.out _).mono ?_); rintro e w2 ⟨rfl, rfl⟩))
    go_loopw [4] (fun v4 wr => ∃ k : Nat, k ≤ l.length ∧ v4 = .int .i64 k ∧ Hid ((l.take k).all (fun z => !decide (4294967295 < z)) = true) ∧ Hid (wr = w1)) (fun v4 _ => l.length - (intOf v4).toNat)
    case atStart => exact ⟨0, by omega, rfl, Lib.hid rfl, Lib.hid rfl⟩
    case round =>
      obtain ⟨k, hk, rfl, HA, HD⟩ := hrel
      obtain rfl := HD.out
      clear HD
      by_cases hlt : k < l.length
      · obtain ⟨g1, off, rfl, hbl, hcell⟩ := (HSL.out wr HB1.out).2.2.2 (by omega)
        have h0 : wr.cell? ⟨g1, off + k, none⟩ = some (.int .u64 (l.getD k 0)) := hcell k hlt
        have HT := Lib.hid (fun h => all_take_i (f := fun z => !decide (4294967295 < z)) hlt HA.out h)
        have HNO : Hid (4294967295 < l.getD k 0 → okW l = false) := Lib.hid (fun h => by
          have hm : l.getD k 0 ∈ l := by rw [List.getD_eq_getElem?_getD, List.getElem?_eq_getElem hlt]; exact List.getElem_mem hlt
          unfold okW
          rw [List.all_eq_false]
          exact ⟨_, hm, by simpa using h⟩)
        clear hcell
        generalize l.getD k 0 = z at h0 HT HNO
        by_cases hz : 4294967295 < z
        · have HO : Hid (R = false) := Lib.hid (by rw [HRR.out, HNO.out hz]; rfl)
          go_wp2
          go_ret
          exact ⟨by rw [HO.out]; rfl, HB0.out.trans (HB1.out.mono HB0.out.size)⟩
        · have HA2 := Lib.hid (HT.out (by simpa using hz))
          go_wp2
          go_roundw
          case rel => exact ⟨k + 1, by omega, by go_num, HA2, Lib.hid (by trivial)⟩
          case measure => simp [intOf]; omega
      · obtain rfl : k = l.length := by omega
        have HO : Hid (okW l = true) := Lib.hid (by have h := HA.out; rwa [List.take_of_length_le (Nat.le_refl _)] at h)
        by_cases hl0 : l.length = 0
        · have HR : Hid (R = true) := Lib.hid (by rw [HRR.out, HO.out]; simp [hl0])
          have hl1 : ((l.length : Int) == 0) = true := by rw [hl0]; rfl
          go_wp2
          go_ret
          exact ⟨by rw [HR.out]; rfl, HB0.out.trans (HB1.out.mono HB0.out.size)⟩
        · have hl1 : ((l.length : Int) == 0) = false := by rw [beq_eq_false_iff_ne]; omega
          by_cases hl2 : l.length ≤ 100
          · have HR : Hid (R = true) := Lib.hid (by rw [HRR.out, HO.out]; simp [hl2])
            have hl3 : (l.length : Int) ≤ 100 := by omega
            go_wp2
            go_ret
            exact ⟨by rw [HR.out]; rfl, HB0.out.trans (HB1.out.mono HB0.out.size)⟩
          · have HR : Hid (R = false) := Lib.hid (by rw [HRR.out]; simp [hl0, hl2])
            have hl3 : ¬ (l.length : Int) ≤ 100 := by omega
            go_wp2
            go_ret
            exact ⟨by rw [HR.out]; rfl, HB0.out.trans (HB1.out.mono HB0.out.size)⟩
end Go.Proofs.YtggfaalodojjkaaGreatDoor
