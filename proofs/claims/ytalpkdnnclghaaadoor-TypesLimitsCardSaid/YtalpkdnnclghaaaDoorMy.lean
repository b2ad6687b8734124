/-
  Decimal numerals: printed and read; the document's reading.
-/
import Derived.Lib.ItoaNum
import Derived.Lib.ItoaMem
import Derived.Lib.AtoiAll
import Derived.Test.YtalpkdnnclghaaaDoorXa
namespace Go.Proofs.YtalpkdnnclghaaaDoor
set_option linter.unusedVariables false
set_option linter.unusedSimpArgs false
/-- a digit's value, as the document reads it -/
def dv (c : UInt8) : Nat := if 48 ≤ c.toNat ∧ c.toNat ≤ 57 then c.toNat - 48 else if 97 ≤ c.toNat ∧ c.toNat ≤ 102 then c.toNat - 87 else 99
/-- the document's reading on -/
def rdg (b most : Nat) : Nat → List UInt8 → Option Nat
  | v, [] => some v
  | v, c :: r => if b ≤ dv c ∨ (most - dv c) / b < v then none else rdg b most (b * v + dv c) r
def rdB (b most : Nat) (s : List UInt8) : Option Nat := if s = [] ∨ (1 < s.length ∧ s.getD 0 0 = 48) then none else rdg b most 0 s
def isD (s : List UInt8) : Bool := s.all fun c => decide (48 ≤ c.toNat ∧ c.toNat ≤ 57)
def ev (v : Nat) (s : List UInt8) : Nat := s.foldl (fun v c => 10 * v + (c.toNat - 48)) v
theorem ev_cons (v : Nat) (c : UInt8) (r : List UInt8) : ev v (c :: r) = ev (10 * v + (c.toNat - 48)) r := by unfold ev; rw [List.foldl_cons]
theorem ev_nil (v : Nat) : ev v [] = v := by unfold ev; rw [List.foldl_nil]
theorem ev_ge : ∀ (s : List UInt8) (v : Nat), v ≤ ev v s
  | [], v => by rw [ev_nil]; exact Nat.le_refl _
  | c :: r, v => by
    rw [ev_cons]
    exact Nat.le_trans (by omega) (ev_ge r (10 * v + (c.toNat - 48)))
theorem ev_snoc (s : List UInt8) (c : UInt8) (v : Nat) : ev v (s ++ [c]) = 10 * ev v s + (c.toNat - 48) := by
  unfold ev; rw [List.foldl_append]; rfl
theorem rdg_eq (M : Nat) (hM : 9 ≤ M) (s : List UInt8) : ∀ v, v ≤ M → rdg 10 M v s = if isD s = true ∧ ev v s ≤ M then some (ev v s) else none := by
  induction s with
  | nil => intro v hv; rw [rdg, ev_nil]; simp [isD, hv]
  | cons c r ih =>
    intro v hv
    rw [rdg]
    by_cases hd : 48 ≤ c.toNat ∧ c.toNat ≤ 57
    · have e : dv c = c.toNat - 48 := by unfold dv; rw [if_pos hd]
      have hD : isD (c :: r) = isD r := by unfold isD; simp [hd]
      rw [hD]
      by_cases hq : 10 * v + (c.toNat - 48) ≤ M
      · rw [if_neg (by rw [e]; omega), e, ih _ hq, ev_cons]
      · rw [if_pos (by rw [e]; omega), if_neg]
        rintro ⟨_, h⟩
        have := ev_ge r (10 * v + (c.toNat - 48))
        rw [ev_cons] at h; omega
    · have hD : isD (c :: r) = false := by unfold isD; simp [hd]
      have e : 10 ≤ dv c := by unfold dv; rw [if_neg hd]; split <;> omega
      rw [if_pos (.inl e), hD, if_neg (by simp)]
theorem dig_nat (d : Nat) (h : d < 10) : (UInt8.ofNat (48 + d)).toNat = 48 + d := UInt8.toNat_ofNat_of_lt' (by show 48 + d < 256; omega)
theorem dec_facts : ∀ n, isD (Lib.decDigits n) = true ∧ ev 0 (Lib.decDigits n) = n ∧ Lib.decDigits n ≠ [] ∧ (0 < n → (Lib.decDigits n).getD 0 0 ≠ 48) := by
  intro n
  induction n using Nat.strongRecOn with
  | ind n ih =>
    by_cases h : n < 10
    · rw [Lib.decDigits_one h]
      have hd := dig_nat n h
      refine ⟨by simp [isD]; omega, by rw [ev_cons, ev_nil, hd]; omega, by simp, fun h0 e => ?_⟩
      have h2 : UInt8.ofNat (48 + n) = 48 := by simpa using e
      have := congrArg UInt8.toNat h2
      rw [hd] at this; simp at this; omega
    · obtain ⟨h1, h2, h3, h4⟩ := ih (n / 10) (by omega)
      rw [Lib.decDigits, dif_neg h]
      have hd := dig_nat (n % 10) (by omega)
      refine ⟨?_, ?_, by simp, fun _ => ?_⟩
      · unfold isD at h1 ⊢; rw [List.all_append, h1]; simp; omega
      · rw [ev_snoc, h2, hd]; omega
      · have h5 := h4 (by omega)
        revert h3 h5
        cases Lib.decDigits (n / 10) with
        | nil => simp
        | cons a l => simp
theorem dec_unique (s : List UInt8) (hD : isD s = true) (h0 : s ≠ []) (hz : ¬ (1 < s.length ∧ s.getD 0 0 = 48)) : s = Lib.decDigits (ev 0 s) := by
  obtain ⟨n, hn⟩ : ∃ n, n = s.length := ⟨_, rfl⟩
  induction n generalizing s with
  | zero => exact absurd (List.length_eq_zero_iff.1 hn.symm) h0
  | succ n ih =>
    obtain ⟨t, c, rfl⟩ : ∃ t c, s = t ++ [c] := ⟨s.dropLast, s.getLast h0, (List.dropLast_concat_getLast h0).symm⟩
    have hD2 : isD t = true ∧ (48 ≤ c.toNat ∧ c.toNat ≤ 57) := by
      unfold isD at hD ⊢; rw [List.all_append, Bool.and_eq_true] at hD
      exact ⟨hD.1, by simpa using hD.2⟩
    rw [ev_snoc]
    have hc : UInt8.ofNat (48 + (c.toNat - 48)) = c := by
      rw [show 48 + (c.toNat - 48) = c.toNat by omega]; simp
    by_cases ht : t = []
    · subst ht
      rw [ev_nil, List.nil_append, Nat.mul_zero, Nat.zero_add]
      rw [Lib.decDigits_one (by omega), hc]
    · have htl : 0 < t.length := List.length_pos_iff.2 ht
      have hg : (t ++ [c]).getD 0 0 = t.getD 0 0 := by
        cases t with
        | nil => exact absurd rfl ht
        | cons a l => rfl
      have hz2 : t.getD 0 0 ≠ 48 := fun e => hz ⟨by simp; omega, by rw [hg]; exact e⟩
      have hi := ih t hD2.1 ht (fun h => hz2 h.2) (by simp at hn; omega)
      have hm : ev 0 t ≠ 0 := by
        intro e
        rw [e] at hi
        rw [Lib.decDigits_one (by decide)] at hi
        rw [hi] at hz2
        exact hz2 rfl
      rw [Lib.decDigits, dif_neg (by omega), show (10 * ev 0 t + (c.toNat - 48)) / 10 = ev 0 t by omega, show (10 * ev 0 t + (c.toNat - 48)) % 10 = c.toNat - 48 by omega, ← hi, hc]
/-- a number told without needless digits, of at most a thousand millions -/
def nmb (s : List UInt8) : Option Nat := rdB 10 1000000000 s
theorem nmb_dec (n : Nat) (h : n ≤ 1000000000) : nmb (Lib.decDigits n) = some n := by
  obtain ⟨h1, h2, h3, h4⟩ := dec_facts n
  unfold nmb rdB
  rw [if_neg, rdg_eq _ (by decide) _ _ (by decide), if_pos ⟨h1, by rw [h2]; exact h⟩, h2]
  rintro (e | ⟨e1, e2⟩)
  · exact h3 e
  · by_cases h0 : 0 < n
    · exact h4 h0 e2
    · obtain rfl : n = 0 := by omega
      rw [Lib.decDigits_one (by decide)] at e1; simp at e1
theorem nmb_some {s : List UInt8} {n : Nat} (h : nmb s = some n) : s = Lib.decDigits n ∧ n ≤ 1000000000 := by
  unfold nmb rdB at h
  split at h
  · cases h
  · rename_i h0
    rw [rdg_eq _ (by decide) _ _ (by decide)] at h
    split at h
    · rename_i h1
      cases h
      exact ⟨dec_unique s h1.1 (fun e => h0 (.inl e)) (fun e => h0 (.inr e)), h1.2⟩
    · cases h
theorem dec_len : ∀ k n, n < 10 ^ (k + 1) → (Lib.decDigits n).length ≤ k + 1 := by
  intro k
  induction k with
  | zero => intro n h; rw [Lib.decDigits_one (by simpa using h)]; simp
  | succ k ih =>
    intro n h
    by_cases h10 : n < 10
    · rw [Lib.decDigits_one h10]; simp
    · rw [Lib.decDigits, dif_neg h10, List.length_append]
      have := ih (n / 10) (by rw [Nat.div_lt_iff_lt_mul (by decide)]; rw [Nat.pow_succ] at h; exact h)
      simp; omega
theorem nmb_long {s : List UInt8} (h : 10 < s.length) : nmb s = none := by
  cases hn : nmb s with
  | none => rfl
  | some n =>
    obtain ⟨e, h2⟩ := nmb_some hn
    have := dec_len 9 n (by omega)
    rw [← e] at this; omega
theorem pu_facts : ∀ (l : List UInt8) (acc k : Nat), acc < 10 ^ k → k + l.length ≤ 18 → Lib.parseUint10 acc l ≠ .range ∧ ∀ u, Lib.parseUint10 acc l = .ok u → u < 10 ^ 18 := by
  intro l
  induction l with
  | nil =>
    intro acc k h hk
    have : 10 ^ k ≤ 10 ^ 18 := Nat.pow_le_pow_right (by decide) (by simpa using hk)
    simp only [Lib.parseUint10]
    exact ⟨by simp, fun u hu => by cases hu; omega⟩
  | cons c r ih =>
    intro acc k h hk
    simp only [List.length_cons] at hk
    have h1 : 10 ^ k ≤ 10 ^ 17 := Nat.pow_le_pow_right (by decide) (by omega)
    simp only [Lib.parseUint10]
    by_cases hd : 48 ≤ c.toNat ∧ c.toNat ≤ 57
    · rw [if_pos hd, if_neg (by omega), if_neg (by omega)]
      exact ih _ (k + 1) (by rw [Nat.pow_succ]; omega) (by omega)
    · rw [if_neg hd]; exact ⟨by simp, fun u hu => by cases hu⟩
theorem pu_ok : ∀ (l : List UInt8) (acc : Nat), isD l = true → ev acc l ≤ 1000000000 → Lib.parseUint10 acc l = .ok (ev acc l) := by
  intro l
  induction l with
  | nil => intro acc _ _; rw [ev_nil]; rfl
  | cons c r ih =>
    intro acc hD hv
    have hd : 48 ≤ c.toNat ∧ c.toNat ≤ 57 := by unfold isD at hD; simp at hD; exact hD.1
    have hr : isD r = true := by unfold isD at hD ⊢; rw [List.all_cons, Bool.and_eq_true] at hD; exact hD.2
    have h2 := ev_ge r (10 * acc + (c.toNat - 48))
    rw [ev_cons] at hv
    rw [ev_cons]
    simp only [Lib.parseUint10]
    rw [if_pos hd, if_neg (by omega), if_neg (by omega), show acc * 10 + (c.toNat - 48) = 10 * acc + (c.toNat - 48) by omega]
    exact ih _ hr hv
theorem atoi_short (s : List UInt8) (h : s.length ≤ 10) : Lib.atoiAll s = .syntax ∨ ∃ v, Lib.atoiAll s = .ok v := by
  unfold Lib.atoiAll
  cases s with
  | nil => exact .inl rfl
  | cons c r =>
    simp only [List.length_cons] at h
    have key : ∀ t : List UInt8, t.length ≤ 10 → Lib.parseMag t ≠ .range ∧ ∀ u, Lib.parseMag t = .ok u → u < 10 ^ 18 := by
      intro t ht
      unfold Lib.parseMag
      split
      · exact ⟨by simp, fun u hu => by cases hu⟩
      · exact pu_facts t 0 0 (by decide) (by omega)
    simp only []
    have k := key (if c.toNat = 43 ∨ c.toNat = 45 then r else c :: r) (by split <;> (try simp only [List.length_cons]) <;> omega)
    cases hp : Lib.parseMag (if c.toNat = 43 ∨ c.toNat = 45 then r else c :: r) with
    | «syntax» => exact .inl rfl
    | range => exact absurd hp k.1
    | ok u =>
      have := k.2 u hp
      simp only []
      rw [if_neg (by omega), if_neg (by omega)]
      exact .inr ⟨_, rfl⟩
theorem atoi_dec (n : Nat) (h : n ≤ 1000000000) : Lib.atoiAll (Lib.decDigits n) = .ok (n : Int) := by
  obtain ⟨h1, h2, h3, _⟩ := dec_facts n
  revert h1 h2 h3
  generalize Lib.decDigits n = s
  intro h1 h2 h3
  cases s with
  | nil => exact absurd rfl h3
  | cons c r =>
    have hd : 48 ≤ c.toNat ∧ c.toNat ≤ 57 := by unfold isD at h1; simp at h1; exact h1.1
    unfold Lib.atoiAll
    simp only []
    rw [if_neg (show ¬ (c.toNat = 43 ∨ c.toNat = 45) by omega)]
    unfold Lib.parseMag
    rw [if_neg (by simp), pu_ok _ _ h1 (by omega), h2]
    simp only []
    rw [if_neg (by omega), if_neg (by omega), if_neg (by omega)]
/-- what types.number tells of what Atoi tells -/
theorem nmb_atoi (s : List UInt8) (v : Int) (h : Lib.atoiAll s = .ok v) : (nmb s).isSome = (decide (0 ≤ v) && (decide (v ≤ 1000000000) && (Lib.itoa v == s))) ∧ (∀ n, nmb s = some n → v = (n : Int)) := by
  constructor
  · cases hn : nmb s with
    | some n =>
      obtain ⟨e, h2⟩ := nmb_some hn
      rw [e, atoi_dec n h2] at h
      cases h
      rw [Lib.itoa_nonneg, e]; simp; omega
    | none =>
      show false = _
      symm
      rw [Bool.eq_false_iff]
      intro hc
      simp only [Bool.and_eq_true, decide_eq_true_eq, beq_iff_eq] at hc
      obtain ⟨c1, c2, c3⟩ := hc
      obtain ⟨n, rfl⟩ : ∃ n : Nat, v = (n : Int) := ⟨v.toNat, by omega⟩
      rw [Lib.itoa_nonneg] at c3
      rw [← c3, nmb_dec n (by omega)] at hn
      cases hn
  · intro n hn
    obtain ⟨e, h2⟩ := nmb_some hn
    rw [e, atoi_dec n h2] at h
    cases h; rfl
theorem nmb_syntax (s : List UInt8) (h : Lib.atoiAll s = .syntax) : nmb s = none := by
  cases hn : nmb s with
  | none => rfl
  | some n =>
    obtain ⟨e, h2⟩ := nmb_some hn
    rw [e, atoi_dec n h2] at h
    cases h
end Go.Proofs.YtalpkdnnclghaaaDoor
