/-
  What limits' text is read as; contracts for the law of limits.
-/
import Derived.Test.YtalpkdnnclghaaaDoorXf
import Derived.Test.YtalpkdnnclghaaaDoorXd
namespace Go.Proofs.YtalpkdnnclghaaaDoor
open Go.RowKit Go.ChangeShapes Go.WideShapes Go.ChangeAt
set_option linter.unusedVariables false
set_option linter.unusedSimpArgs false
theorem dec_mem {n : Nat} {c : UInt8} (h : c ∈ Lib.decDigits n) : 48 ≤ c.toNat ∧ c.toNat ≤ 57 := by
  have := (dec_facts n).1
  unfold isD at this
  rw [List.all_eq_true] at this
  simpa using this c h
theorem dec_no (n : Nat) (c : UInt8) (h : c.toNat < 48 ∨ 57 < c.toNat) : c ∉ Lib.decDigits n := fun hm => by
  have := dec_mem hm; omega
theorem cut_one (p r : List UInt8) (h : (32 : UInt8) ∉ p) : Lib.cut (p ++ 32 :: r) [32] = (p, r, true) := by
  unfold Lib.cut
  rw [index_one, ib_app _ _ _ h, if_pos (by omega)]
  simp
theorem suf_no (t : List UInt8) (h : (105 : UInt8) ∉ t) : Lib.hasSuffix t sfx = false := by
  unfold Lib.hasSuffix
  rw [Bool.eq_false_iff, Ne, List.isSuffixOf_iff_suffix]
  rintro ⟨q, hq⟩
  exact h (by rw [← hq]; simp [sfx])
theorem suf_yes (t : List UInt8) : Lib.hasSuffix (t ++ sfx) sfx = true ∧ Lib.trimSuffix (t ++ sfx) sfx = t := by
  have h : Lib.hasSuffix (t ++ sfx) sfx = true := by unfold Lib.hasSuffix; rw [List.isSuffixOf_iff_suffix]; exact List.suffix_append _ _
  exact ⟨h, by unfold Lib.trimSuffix; rw [h]; simp⟩
theorem lmF_txt (a b : Int) (wd : Bool) (ha : 0 ≤ a) (ha1 : a ≤ 1000000000) (hb : b ≤ 1000000000) : lmF (lmT a b wd) = some (a, max b (-1), wd) := by
  obtain ⟨n, rfl⟩ : ∃ n : Nat, a = (n : Int) := ⟨a.toNat, by omega⟩
  obtain ⟨R, hR, hno, hval⟩ : ∃ R : List UInt8, R = (if b < 0 then [45] else Lib.itoa b) ∧ (105 : UInt8) ∉ R ∧ nmD R = some (max b (-1)) := by
    refine ⟨_, rfl, ?_, ?_⟩
    · split
      · decide
      · rename_i h
        obtain ⟨k, rfl⟩ : ∃ k : Nat, b = (k : Int) := ⟨b.toNat, by omega⟩
        rw [Lib.itoa_nonneg]; exact dec_no _ _ (by decide)
    · split
      · rename_i h
        unfold nmD; rw [if_pos rfl, show max b (-1) = -1 by omega]
      · rename_i h
        obtain ⟨k, rfl⟩ : ∃ k : Nat, b = (k : Int) := ⟨b.toNat, by omega⟩
        rw [Lib.itoa_nonneg]
        unfold nmD
        rw [if_neg (fun e => dec_no k 45 (by decide) (by rw [e]; simp)), nmb_dec k (by omega), show max (k : Int) (-1) = (k : Int) by omega]; rfl
  have e1 : lmT (n : Int) b wd = (Lib.decDigits n ++ 32 :: R) ++ (if wd then sfx else []) := by
    unfold lmT; rw [← hR, Lib.itoa_nonneg]; simp [sfx]
  rw [e1]
  unfold lmF
  have hnd : (105 : UInt8) ∉ Lib.decDigits n ++ 32 :: R := by
    simp only [List.mem_append, List.mem_cons, not_or]
    exact ⟨dec_no _ _ (by decide), by decide, hno⟩
  have hc := cut_one (Lib.decDigits n) R (dec_no _ _ (by decide))
  cases wd with
  | true =>
    obtain ⟨s1, s2⟩ := suf_yes (Lib.decDigits n ++ 32 :: R)
    simp only [if_true]
    rw [s1, s2, hc, nmb_dec n (by omega), hval]; rfl
  | false =>
    simp only [Bool.false_eq_true, if_false, List.append_nil]
    have h := suf_no _ hnd
    have h2 : Lib.trimSuffix (Lib.decDigits n ++ 32 :: R) sfx = Lib.decDigits n ++ 32 :: R := by unfold Lib.trimSuffix; rw [h]; rfl
    rw [h, h2, hc, nmb_dec n (by omega), hval]; rfl
theorem lmT_len (a b : Int) (wd : Bool) (ha0 : -9223372036854775808 ≤ a) (ha1 : a ≤ 9223372036854775807) (hb0 : -9223372036854775808 ≤ b) (hb1 : b ≤ 9223372036854775807) : (lmT a b wd).length ≤ 100 := by
  have h1 := itoa_len a ha0 ha1
  have h2 := itoa_len b hb0 hb1
  unfold lmT
  simp only [List.length_append, List.length_cons, List.length_nil]
  split <;> split <;> (simp only [List.length_cons, List.length_nil]; omega)
/-- what ParseLimits answers to limits' text -/
def PxP (a b : Int) (wd : Bool) (w : World) (e : Ending) (w' : World) : Prop :=
  ∃ x y z E, e = .returned (.tuple #[.agg #[.int .i64 x, .int .i64 y, .bool z], .int .i64 E]) ∧ (0 ≤ a ∧ a ≤ 1000000000 ∧ b ≤ 1000000000 → x = a ∧ y = max b (-1) ∧ z = wd ∧ E = 0) ∧ Below w.heap.size w w'
theorem Px_any (a b : Int) (wd : Bool) (ha0 : -9223372036854775808 ≤ a) (ha1 : a ≤ 9223372036854775807) (hb0 : -9223372036854775808 ≤ b) (hb1 : b ≤ 9223372036854775807) (w : World) (hL : Lw w) :
    Calls Tryd.prog 23 #[.string (bs (lmT a b wd))] w (PxP a b wd w) := by
  refine (ParseLimits_any _ (by have := lmT_len a b wd ha0 ha1 hb0 hb1; omega) w hL).mono ?_
  rintro e w' ⟨h1, h2⟩
  by_cases hg : 0 ≤ a ∧ a ≤ 1000000000 ∧ b ≤ 1000000000
  · rw [lmF_txt a b wd hg.1 hg.2.1 hg.2.2] at h1
    exact ⟨_, _, _, _, h1, fun _ => ⟨rfl, rfl, rfl, rfl⟩, h2⟩
  · cases h : lmF (lmT a b wd) with
    | none => rw [h] at h1; exact ⟨_, _, _, _, h1, fun g => absurd g hg, h2⟩
    | some p => obtain ⟨x, y, z⟩ := p; rw [h] at h1; exact ⟨_, _, _, _, h1, fun g => absurd g hg, h2⟩
end Go.Proofs.YtalpkdnnclghaaaDoor
