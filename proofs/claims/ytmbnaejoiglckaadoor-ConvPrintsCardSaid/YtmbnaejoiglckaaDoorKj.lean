/-
  The document's reading of a word, and conv's: the same.
-/
import Derived.Test.YtmbnaejoiglckaaDoorKh
namespace Go.Proofs.YtmbnaejoiglckaaDoor
open Go.RowKit
set_option linter.unusedVariables false
set_option linter.unusedSimpArgs false
def bm (B M : Nat) : Prop := (B = 32 ∧ M = 4294967295) ∨ (B = 64 ∧ M = 18446744073709551615)
theorem dec_head {n : Nat} {c : UInt8} {t : List UInt8} (h : Lib.decDigits n = c :: t) : 48 ≤ c.toNat ∧ c.toNat ≤ 57 ∧ isD t = true := by
  obtain ⟨h1, _⟩ := dec_facts n
  rw [h] at h1
  unfold isD at h1 ⊢
  rw [List.all_cons, Bool.and_eq_true] at h1
  have := of_decide_eq_true h1.1
  exact ⟨this.1, this.2, h1.2⟩
theorem itoa_cases (v : Int) : (∃ n : Nat, v = (n : Int) ∧ Lib.itoa v = Lib.decDigits n) ∨ (∃ n : Nat, 1 ≤ n ∧ v = -(n : Int) ∧ Lib.itoa v = 45 :: Lib.decDigits n) := by
  by_cases h : 0 ≤ v
  · obtain ⟨n, rfl⟩ : ∃ n : Nat, v = (n : Int) := ⟨v.toNat, by omega⟩
    exact .inl ⟨n, rfl, Lib.itoa_nonneg n⟩
  · obtain ⟨n, rfl, hn⟩ : ∃ n : Nat, v = -(n : Int) ∧ 1 ≤ n := ⟨(-v).toNat, by omega, by omega⟩
    exact .inr ⟨n, hn, rfl, Lib.itoa_neg n hn⟩
theorem dec_inj {n m : Nat} (h : Lib.decDigits n = Lib.decDigits m) : n = m := by
  have h1 := (dec_facts n).2.1
  rw [h, (dec_facts m).2.1] at h1
  exact h1.symm
theorem bm_facts {B M : Nat} (h : bm B M) : (B = 32 ∨ B = 64) ∧ 9 ≤ M ∧ 15 ≤ M ∧ M / 2 + 1 = 2 ^ (B - 1) ∧ M = 2 ^ B - 1 ∧ 9 ≤ M / 2 + 1 ∧ 2 ^ (B - 1) ≤ M ∧ M < 18446744073709551616 := by
  rcases h with ⟨rfl, rfl⟩ | ⟨rfl, rfl⟩
  · exact ⟨.inl rfl, by decide, by decide, by decide, by decide, by decide, by decide, by decide⟩
  · exact ⟨.inr rfl, by decide, by decide, by decide, by decide, by decide, by decide, by decide⟩
theorem cut_neg {B M : Nat} (h : bm B M) (v : Nat) (h1 : 1 ≤ v) (h2 : v ≤ 2 ^ (B - 1)) : Wd.cut B (wu (-(v : Int))) = M - v + 1 := by
  have hw := (wu_eq (-(v : Int))).1
  rw [IntKind.wrap_u64] at hw
  rcases h with ⟨rfl, rfl⟩ | ⟨rfl, rfl⟩
  · simp only [Wd.cut, show (((32 : Nat) : Int) = 32) = True from by simp, if_true]
    simp at h2
    omega
  · simp only [Wd.cut, show (((64 : Nat) : Int) = 32) = False from by simp, if_false]
    simp at h2
    omega
theorem rdH_no (M : Nat) (s : List UInt8) (h : ∀ t, s ≠ 48 :: 120 :: t) : rdH M s = none := by
  unfold rdH
  split
  · exact absurd rfl (h _)
  · rfl
theorem pz_dz {B M : Nat} (hb : bm B M) (s : List UInt8) : pzf B M s = dz M s := by
  obtain ⟨hB, h9, h15, hP, hM, h92, hle, _⟩ := bm_facts hb
  unfold pzf
  by_cases c1 : ∃ t, s = 48 :: 120 :: t
  · obtain ⟨t, rfl⟩ := c1
    have e1 : rdB 10 M (48 :: 120 :: t) = none := by
      cases h : rdB 10 M (48 :: 120 :: t) with
      | none => rfl
      | some n =>
        have := (dec_head ((rd10_iff M h9 _ n).1 h).1.symm).2.2
        simp [isD] at this
    have e2 : rdS B (48 :: 120 :: t) = none := by
      unfold rdS
      cases h : rdI B (48 :: 120 :: t) with
      | none => rfl
      | some v =>
        have h1 := ((rdI_iff B hB _ v).1 h).1
        rcases itoa_cases v with ⟨n, _, e⟩ | ⟨n, _, _, e⟩
        · rw [e] at h1
          have := (dec_head h1.symm).2.2
          simp [isD] at this
        · rw [e] at h1; simp at h1
    rw [e1, e2, dz_hex]; rfl
  · have e3 := rdH_no M s (fun t e => c1 ⟨t, e⟩)
    by_cases c2 : ∃ t, s = 45 :: t
    · obtain ⟨t, rfl⟩ := c2
      have e1 : rdB 10 M (45 :: t) = none := by
        cases h : rdB 10 M (45 :: t) with
        | none => rfl
        | some n =>
          have := (dec_head ((rd10_iff M h9 _ n).1 h).1.symm).1
          simp at this
      rw [e1, e3, dz_neg, hP]
      have hno : ∀ v, rdI B (45 :: t) = some v → ∃ n : Nat, 1 ≤ n ∧ v = -(n : Int) ∧ t = Lib.decDigits n ∧ n ≤ 2 ^ (B - 1) := fun v h => by
        obtain ⟨h1, h2, h3⟩ := (rdI_iff B hB _ v).1 h
        rcases itoa_cases v with ⟨n, _, e⟩ | ⟨n, hn, hv, e⟩
        · rw [e] at h1
          have := (dec_head h1.symm).1
          simp at this
        · rw [e] at h1
          injection h1 with _ h1
          exact ⟨n, hn, hv, h1, by omega⟩
      cases h : rdB 10 (2 ^ (B - 1)) t with
      | none =>
        have e2 : rdS B (45 :: t) = none := by
          unfold rdS
          cases hI : rdI B (45 :: t) with
          | none => rfl
          | some v =>
            obtain ⟨n, _, _, e, hn⟩ := hno v hI
            have := (rd10_iff (2 ^ (B - 1)) (by omega) t n).2 ⟨e, hn⟩
            rw [h] at this; cases this
        rw [e2]; rfl
      | some v =>
        obtain ⟨ht, hv⟩ := (rd10_iff (2 ^ (B - 1)) (by omega) t v).1 h
        simp only []
        by_cases h0 : v = 0
        · have e2 : rdS B (45 :: t) = none := by
            unfold rdS
            cases hI : rdI B (45 :: t) with
            | none => rfl
            | some z =>
              obtain ⟨n, hn, _, e, _⟩ := hno z hI
              have := dec_inj (ht.symm.trans e)
              omega
          rw [e2, if_pos h0]; rfl
        · have hI : rdI B (45 :: t) = some (-(v : Int)) := (rdI_iff B hB _ _).2 ⟨by rw [Lib.itoa_neg v (by omega), ht], by omega, by have := Nat.two_pow_pos (B - 1); omega⟩
          have e2 : rdS B (45 :: t) = some (M - v + 1) := by
            unfold rdS
            rw [hI]
            exact congrArg some (cut_neg hb v (by omega) hv)
          rw [e2, if_neg h0]; rfl
    · rw [dz_else M s (fun t e => c1 ⟨t, e⟩) (fun t e => c2 ⟨t, e⟩), e3]
      cases h : rdB 10 M s with
      | some n => rfl
      | none =>
        have e2 : rdS B s = none := by
          unfold rdS
          cases hI : rdI B s with
          | none => rfl
          | some v =>
            obtain ⟨h1, h2, h3⟩ := (rdI_iff B hB _ v).1 hI
            rcases itoa_cases v with ⟨n, hn, e⟩ | ⟨n, _, _, e⟩
            · have := (rd10_iff M h9 s n).2 ⟨h1.trans e, by omega⟩
              rw [h] at this; cases this
            · exact absurd ⟨_, h1.trans e⟩ c2
        rw [e2]; rfl
theorem dz_long {B M : Nat} (hb : bm B M) (s : List UInt8) (h : 20 < s.length) : dz M s = none := by
  obtain ⟨hB, h9, h15, hP, hM, h92, hle, h64⟩ := bm_facts hb
  by_cases c1 : ∃ t, s = 48 :: 120 :: t
  · obtain ⟨t, rfl⟩ := c1
    rw [dz_hex]
    cases hn : rdB 16 M t with
    | none => rfl
    | some n =>
      obtain ⟨e, h2⟩ := (rd16_iff M h15 t n).1 hn
      have := hex_len 15 n (by omega)
      rw [← e] at this
      simp at h; omega
  · by_cases c2 : ∃ t, s = 45 :: t
    · obtain ⟨t, rfl⟩ := c2
      rw [dz_neg]
      cases hn : rdB 10 (M / 2 + 1) t with
      | none => rfl
      | some n =>
        obtain ⟨e, h2⟩ := (rd10_iff _ h92 t n).1 hn
        have := dec_len 18 n (by omega)
        rw [← e] at this
        simp at h; omega
    · rw [dz_else M s (fun t e => c1 ⟨t, e⟩) (fun t e => c2 ⟨t, e⟩)]
      cases hn : rdB 10 M s with
      | none => rfl
      | some n =>
        obtain ⟨e, h2⟩ := (rd10_iff _ h9 s n).1 hn
        have := dec_len 19 n (by omega)
        rw [← e] at this
        omega
end Go.Proofs.YtmbnaejoiglckaaDoor
