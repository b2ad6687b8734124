/-
  types.parse at any text; types.ParseSig.
-/
import Derived.Test.YtalpkdnnclghaaaDoorNg
import Derived.Test.YtalpkdnnclghaaaDoorS
namespace Go.Proofs.YtalpkdnnclghaaaDoor
open Go.RowKit Go.ChangeShapes Go.WideShapes Go.ChangeAt
set_option linter.unusedVariables false
set_option linter.unusedSimpArgs false
/-- a list in brackets -/
def psL (s : List UInt8) : Option (List Nat) :=
  if (Lib.hasPrefix s [40] && Lib.hasSuffix (Lib.trimPrefix s [40]) [41]) = true then
    (if Lib.trimSuffix (Lib.trimPrefix s [40]) [41] = [] then some [] else go ((Lib.trimSuffix (Lib.trimPrefix s [40]) [41]).length + 1) [] (Lib.trimSuffix (Lib.trimPrefix s [40]) [41]))
  else none
theorem trimP_len (s p : List UInt8) : (Lib.trimPrefix s p).length ≤ s.length := by unfold Lib.trimPrefix; split <;> simp
theorem trimS_len (s p : List UInt8) : (Lib.trimSuffix s p).length ≤ s.length := by unfold Lib.trimSuffix; split <;> simp
theorem parse_any (s : List UInt8) (hlen : s.length ≤ 4611686018427387904) (w : World) : Calls Tryd.prog 45 #[.string ⟨s.toArray⟩] w (PrP (psL s) w) := by
  have h1 : ∀ W, Calls Tryd.prog 59 #[.string ⟨s.toArray⟩, .string ⟨#[40]⟩] W fun e w' => e = .returned (.tuple #[.string ⟨(Lib.trimPrefix s [40]).toArray⟩, .bool (Lib.hasPrefix s [40])]) ∧ w' = W := fun W => Tryd.strings_CutPrefix ⟨s.toArray⟩ ⟨#[40]⟩ W
  have hp := trimP_len s [40]
  obtain ⟨s1, hs1⟩ : ∃ s1, s1 = Lib.trimPrefix s [40] := ⟨_, rfl⟩
  have h2 : ∀ W, Calls Tryd.prog 53 #[.string ⟨s1.toArray⟩, .string ⟨#[41]⟩] W fun e w' => e = .returned (.tuple #[.string ⟨(Lib.trimSuffix s1 [41]).toArray⟩, .bool (Lib.hasSuffix s1 [41])]) ∧ w' = W := fun W => Tryd.strings_CutSuffix ⟨s1.toArray⟩ ⟨#[41]⟩ W (by rw [sz_of, hs1]; omega)
  have hq := trimS_len s1 [41]
  unfold psL
  rw [← hs1] at h1 hp ⊢
  by_cases hb : (Lib.hasPrefix s [40] && Lib.hasSuffix s1 [41]) = true
  · rw [if_pos hb]
    rw [Bool.and_eq_true] at hb
    rw [hb.1] at h1
    rw [hb.2] at h2
    by_cases he : Lib.trimSuffix s1 [41] = []
    · rw [if_pos he]
      rw [he] at h2
      exact parse_empty s s1 h1 h2 w
    · rw [if_neg he]
      exact parse_list s s1 _ he (by omega) h1 h2 w
  · rw [if_neg hb]
    exact parse_no s s1 _ _ _ (Bool.eq_false_iff.2 hb) h1 h2 w
end Go.Proofs.YtalpkdnnclghaaaDoor
