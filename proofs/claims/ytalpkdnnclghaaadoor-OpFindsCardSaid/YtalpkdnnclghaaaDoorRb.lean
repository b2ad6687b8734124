/-
  The document's Name.
-/
import Derived.Test.YtalpkdnnclghaaaDoorRa
import Derived.Great.BuildSlice
import Derived.Outline
namespace Go.Proofs.YtalpkdnnclghaaaDoor
open Go.RowKit Go.ChangeShapes Go.WideShapes Go.ChangeAt
set_option linter.unusedVariables false
set_option linter.unusedSimpArgs false
theorem info9 : (Tryd.prog.info? 9).map (fun i => (i.zero, i.size, i.bytes)) = some (some (.string ⟨#[]⟩), 1, 16) := by kernel_rfl
set_option maxHeartbeats 8000000 in
set_option maxRecDepth 100000 in
theorem RName_in (k : Nat) (hk : k ≤ 196) (w : World) : Calls Tryd.prog 32 #[.int .i64 k] w fun e w' => e = .returned (.string ⟨(TN.getD k []).toArray⟩) ∧ w.alloc (.cells NT 9) = w' := by
  obtain ⟨i9, hi9, hz9, hs9, _⟩ := info_parts info9
  have hcell : (w.alloc (.cells NT 9)).cell? ⟨w.heap.size, k, none⟩ = some (.string ⟨(TN.getD k []).toArray⟩) := by
    rw [(Blk.new w 9 NT).cell k]
    unfold NT
    have hl : k < TN.length := by rw [TN_length]; omega
    rw [List.getElem?_toArray, List.getElem?_map, List.getElem?_eq_getElem hl, List.getD_eq_getElem?_getD, List.getElem?_eq_getElem hl]; rfl
  generalize (TN.getD k []) = nm at hcell
  have h1 : (((k : Nat) : Int) == 64522) = false := by simp; omega
  have h2 : (((k : Nat) : Int) == 64523) = false := by simp; omega
  go_enter Tryd.func32, Tryd.ntmps32
  go_wp2_with (with_reducible refine wpList_buildSlice rfl 72 9 197 _ rfl NT i9 (.string ⟨#[]⟩) Tryd.underlying72 hi9 hz9 ?e1 ?e2 ?e3 ?_
               case e1 => rw [hs9]; decide
               case e2 => rw [hs9]; decide
               case e3 => rw [hs9]; kernel_rfl)
  go_ret
  exact ⟨rfl, rfl⟩
set_option maxHeartbeats 8000000 in
set_option maxRecDepth 100000 in
theorem RName_copy (w : World) : Calls Tryd.prog 32 #[.int .i64 64522] w fun e w' => e = .returned (.string ⟨#[109, 101, 109, 111, 114, 121, 46, 99, 111, 112, 121]⟩) ∧ w = w' := by
  go_enter Tryd.func32, Tryd.ntmps32
  go_wp2_with fail
  go_ret
  exact ⟨rfl, rfl⟩
set_option maxHeartbeats 8000000 in
set_option maxRecDepth 100000 in
theorem RName_fill (w : World) : Calls Tryd.prog 32 #[.int .i64 64523] w fun e w' => e = .returned (.string ⟨#[109, 101, 109, 111, 114, 121, 46, 102, 105, 108, 108]⟩) ∧ w = w' := by
  go_enter Tryd.func32, Tryd.ntmps32
  go_wp2_with fail
  go_ret
  exact ⟨rfl, rfl⟩
set_option maxHeartbeats 8000000 in
set_option maxRecDepth 100000 in
theorem RName_lo (c : Int) (h : c < 0) (hb : -9223372036854775808 ≤ c) (w : World) : Calls Tryd.prog 32 #[.int .i64 c] w fun e w' => e = .returned (.string ⟨#[]⟩) ∧ w = w' := by
  have h1 : (c == 64522) = false := by simp; omega
  have h2 : (c == 64523) = false := by simp; omega
  go_enter Tryd.func32, Tryd.ntmps32
  go_wp2_with fail
  go_ret
  exact ⟨rfl, rfl⟩
set_option maxHeartbeats 8000000 in
set_option maxRecDepth 100000 in
theorem RName_hi (c : Int) (h : 196 < c) (hb : c ≤ 9223372036854775807) (h1 : (c == 64522) = false) (h2 : (c == 64523) = false) (w : World) : Calls Tryd.prog 32 #[.int .i64 c] w fun e w' => e = .returned (.string ⟨#[]⟩) ∧ w = w' := by
  have h0 : ¬ c < 0 := by omega
  go_enter Tryd.func32, Tryd.ntmps32
  go_wp2_with fail
  go_ret
  exact ⟨rfl, rfl⟩
theorem RName_any (c : Int) (hc : (Lit.int .i64 c).wf = true) (w : World) : Calls Tryd.prog 32 #[.int .i64 c] w fun e w' => e = .returned (.string ⟨(nameL c).toArray⟩) ∧ Below w.heap.size w w' := by
  have hb := bounds_i64 hc
  by_cases h1 : c = 64522
  · subst h1
    refine (RName_copy w).mono ?_
    rintro e w' ⟨rfl, rfl⟩
    exact ⟨rfl, Below.refl _ _⟩
  · by_cases h2 : c = 64523
    · subst h2
      refine (RName_fill w).mono ?_
      rintro e w' ⟨rfl, rfl⟩
      exact ⟨rfl, Below.refl _ _⟩
    · have hn1 : (c == 64522) = false := by simpa using h1
      have hn2 : (c == 64523) = false := by simpa using h2
      by_cases h3 : 0 ≤ c ∧ c ≤ 196
      · have hn : nameL c = TN.getD c.toNat [] := by unfold nameL; rw [if_neg h1, if_neg h2, if_pos h3]
        rw [hn]
        obtain ⟨k, rfl⟩ := Int.eq_ofNat_of_zero_le h3.1
        refine (RName_in k (by omega) w).mono ?_
        rintro e w' ⟨rfl, rfl⟩
        exact ⟨rfl, (Below.refl _ _).alloc (Nat.le_refl _) _⟩
      · have hn : nameL c = [] := by unfold nameL; rw [if_neg h1, if_neg h2, if_neg h3]
        rw [hn]
        by_cases h4 : c < 0
        · refine (RName_lo c h4 hb.1 w).mono ?_
          rintro e w' ⟨rfl, rfl⟩
          exact ⟨rfl, Below.refl _ _⟩
        · refine (RName_hi c (by omega) hb.2 hn1 hn2 w).mono ?_
          rintro e w' ⟨rfl, rfl⟩
          exact ⟨rfl, Below.refl _ _⟩
/-- the document's names are the ops' -/
def CNL : List (Nat × List Nat) := OPS.map fun q => (q.1.first + q.2, (nmL q.1 q.2).map UInt8.toNat)
theorem namesB : (OPS.all fun q => (nmL q.1 q.2).map UInt8.toNat == (nameL ((q.1.first + q.2 : Nat) : Int)).map UInt8.toNat) = true := by kernel_rfl
theorem name_of {c : Int} {r : Rw} {i : Nat} (h : OpAt c r i) : nmS r i = ⟨(nameL c).toArray⟩ := by
  have h1 := List.all_eq_true.1 namesB _ h.1
  rw [beq_iff_eq] at h1
  have h2 := toNat_inj h1
  apply ba_ext
  rw [nmL_eq, h2, ← h.2]
  simp
theorem codesB : ((List.range 197).all fun k => (TN.getD k []).isEmpty || OPS.any fun q => q.1.first + q.2 == k) = true := by kernel_rfl
theorem ops2 : (OPS.any fun q => q.1.first + q.2 == 64522) = true ∧ (OPS.any fun q => q.1.first + q.2 == 64523) = true := ⟨by kernel_rfl, by kernel_rfl⟩
theorem any_op {k : Nat} (h : (OPS.any fun q => q.1.first + q.2 == k) = true) : ∃ r i, OpAt (k : Int) r i := by
  obtain ⟨⟨r, i⟩, hm, he⟩ := List.any_eq_true.1 h
  exact ⟨r, i, hm, by rw [beq_iff_eq] at he; simp only at he; omega⟩
/-- a code of which there is no op has no name -/
theorem name_no {c : Int} (h : ∀ r i, ¬ OpAt c r i) : nameL c = [] := by
  unfold nameL
  split
  · rename_i e
    obtain ⟨r, i, ho⟩ := any_op ops2.1
    exact absurd (by rw [e]; exact ho) (h r i)
  · split
    · rename_i e
      obtain ⟨r, i, ho⟩ := any_op ops2.2
      exact absurd (by rw [e]; exact ho) (h r i)
    · split
      · rename_i h3
        obtain ⟨k, rfl⟩ := Int.eq_ofNat_of_zero_le h3.1
        have h4 := List.all_eq_true.1 codesB k (by simp; omega)
        rcases Bool.or_eq_true_iff.1 h4 with h5 | h5
        · simpa using h5
        · obtain ⟨r, i, ho⟩ := any_op h5
          exact absurd ho (h r i)
      · rfl
theorem nonemptyB : (OPS.all fun q => !(nmL q.1 q.2).isEmpty) = true := by kernel_rfl
theorem name_ne {c : Int} {r : Rw} {i : Nat} (h : OpAt c r i) : nameL c ≠ [] := by
  have h1 := List.all_eq_true.1 nonemptyB _ h.1
  have h2 := name_of h
  intro e
  rw [e] at h2
  have := nmL_eq r i
  rw [h2] at this
  simp only at this
  rw [← this] at h1
  simp at h1
end Go.Proofs.YtalpkdnnclghaaaDoor
