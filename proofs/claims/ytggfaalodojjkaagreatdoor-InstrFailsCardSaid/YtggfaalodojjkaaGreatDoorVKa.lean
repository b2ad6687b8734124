/-
  Numerals in tens and in sixteens: printed, read; words' texts (no program here).
-/
import Derived.Lib.ItoaNum
import Derived.Lib.ItoaMem
import Derived.Lib.ParseIntB
namespace Go.Proofs.YtggfaalodojjkaaGreatDoor
set_option linter.unusedVariables false
set_option linter.unusedSimpArgs false
/-- a digit's value, as the document reads it -/
def dv (c : UInt8) : Nat := if 48 ≤ c.toNat ∧ c.toNat ≤ 57 then c.toNat - 48 else if 97 ≤ c.toNat ∧ c.toNat ≤ 102 then c.toNat - 87 else 99
/-- the document's reading on -/
def rdg (b most : Nat) : Nat → List UInt8 → Option Nat
  | v, [] => some v
  | v, c :: r => if b ≤ dv c ∨ (most - dv c) / b < v then none else rdg b most (b * v + dv c) r
def rdB (b most : Nat) (s : List UInt8) : Option Nat := if s = [] ∨ (1 < s.length ∧ s.getD 0 0 = 48) then none else rdg b most 0 s
def isD (s : List UInt8) : Bool := s.all fun c => decide (48 ≤ c.toNat ∧ c.toNat ≤ 57)
def ev (v : Nat) (s : List UInt8) : Nat := s.foldl (fun v c => 10 * v + (c.toNat - 48)) v
theorem ev_cons (v : Nat) (c : UInt8) (r : List UInt8) : ev v (c :: r) = ev (10 * v + (c.toNat - 48)) r := by unfold ev; rw [List.foldl_cons]
theorem ev_nil (v : Nat) : ev v [] = v := by unfold ev; rw [List.foldl_nil]
theorem ev_ge : ∀ (s : List UInt8) (v : Nat), v ≤ ev v s
  | [], v => by rw [ev_nil]; exact Nat.le_refl _
  | c :: r, v => by
    rw [ev_cons]
    exact Nat.le_trans (by omega) (ev_ge r (10 * v + (c.toNat - 48)))
theorem ev_snoc (s : List UInt8) (c : UInt8) (v : Nat) : ev v (s ++ [c]) = 10 * ev v s + (c.toNat - 48) := by
  unfold ev; rw [List.foldl_append]; rfl
theorem rdg_eq (M : Nat) (hM : 9 ≤ M) (s : List UInt8) : ∀ v, v ≤ M → rdg 10 M v s = if isD s = true ∧ ev v s ≤ M then some (ev v s) else none := by
  induction s with
  | nil => intro v hv; rw [rdg, ev_nil]; simp [isD, hv]
  | cons c r ih =>
    intro v hv
    rw [rdg]
    by_cases hd : 48 ≤ c.toNat ∧ c.toNat ≤ 57
    · have e : dv c = c.toNat - 48 := by unfold dv; rw [if_pos hd]
      have hD : isD (c :: r) = isD r := by unfold isD; simp [hd]
      rw [hD]
      by_cases hq : 10 * v + (c.toNat - 48) ≤ M
      · rw [if_neg (by rw [e]; omega), e, ih _ hq, ev_cons]
      · rw [if_pos (by rw [e]; omega), if_neg]
        rintro ⟨_, h⟩
        have := ev_ge r (10 * v + (c.toNat - 48))
        rw [ev_cons] at h; omega
    · have hD : isD (c :: r) = false := by unfold isD; simp [hd]
      have e : 10 ≤ dv c := by unfold dv; rw [if_neg hd]; split <;> omega
      rw [if_pos (.inl e), hD, if_neg (by simp)]
theorem dig_nat (d : Nat) (h : d < 10) : (UInt8.ofNat (48 + d)).toNat = 48 + d := UInt8.toNat_ofNat_of_lt' (by show 48 + d < 256; omega)
theorem dec_facts : ∀ n, isD (Lib.decDigits n) = true ∧ ev 0 (Lib.decDigits n) = n ∧ Lib.decDigits n ≠ [] ∧ (0 < n → (Lib.decDigits n).getD 0 0 ≠ 48) := by
  intro n
  induction n using Nat.strongRecOn with
  | ind n ih =>
    by_cases h : n < 10
    · rw [Lib.decDigits_one h]
      have hd := dig_nat n h
      refine ⟨by simp [isD]; omega, by rw [ev_cons, ev_nil, hd]; omega, by simp, fun h0 e => ?_⟩
      have h2 : UInt8.ofNat (48 + n) = 48 := by simpa using e
      have := congrArg UInt8.toNat h2
      rw [hd] at this; simp at this; omega
    · obtain ⟨h1, h2, h3, h4⟩ := ih (n / 10) (by omega)
      rw [Lib.decDigits, dif_neg h]
      have hd := dig_nat (n % 10) (by omega)
      refine ⟨?_, ?_, by simp, fun _ => ?_⟩
      · unfold isD at h1 ⊢; rw [List.all_append, h1]; simp; omega
      · rw [ev_snoc, h2, hd]; omega
      · have h5 := h4 (by omega)
        revert h3 h5
        cases Lib.decDigits (n / 10) with
        | nil => simp
        | cons a l => simp
theorem dec_unique (s : List UInt8) (hD : isD s = true) (h0 : s ≠ []) (hz : ¬ (1 < s.length ∧ s.getD 0 0 = 48)) : s = Lib.decDigits (ev 0 s) := by
  obtain ⟨n, hn⟩ : ∃ n, n = s.length := ⟨_, rfl⟩
  induction n generalizing s with
  | zero => exact absurd (List.length_eq_zero_iff.1 hn.symm) h0
  | succ n ih =>
    obtain ⟨t, c, rfl⟩ : ∃ t c, s = t ++ [c] := ⟨s.dropLast, s.getLast h0, (List.dropLast_concat_getLast h0).symm⟩
    have hD2 : isD t = true ∧ (48 ≤ c.toNat ∧ c.toNat ≤ 57) := by
      unfold isD at hD ⊢; rw [List.all_append, Bool.and_eq_true] at hD
      exact ⟨hD.1, by simpa using hD.2⟩
    rw [ev_snoc]
    have hc : UInt8.ofNat (48 + (c.toNat - 48)) = c := by
      rw [show 48 + (c.toNat - 48) = c.toNat by omega]; simp
    by_cases ht : t = []
    · subst ht
      rw [ev_nil, List.nil_append, Nat.mul_zero, Nat.zero_add]
      rw [Lib.decDigits_one (by omega), hc]
    · have htl : 0 < t.length := List.length_pos_iff.2 ht
      have hg : (t ++ [c]).getD 0 0 = t.getD 0 0 := by
        cases t with
        | nil => exact absurd rfl ht
        | cons a l => rfl
      have hz2 : t.getD 0 0 ≠ 48 := fun e => hz ⟨by simp; omega, by rw [hg]; exact e⟩
      have hi := ih t hD2.1 ht (fun h => hz2 h.2) (by simp at hn; omega)
      have hm : ev 0 t ≠ 0 := by
        intro e
        rw [e] at hi
        rw [Lib.decDigits_one (by decide)] at hi
        rw [hi] at hz2
        exact hz2 rfl
      rw [Lib.decDigits, dif_neg (by omega), show (10 * ev 0 t + (c.toNat - 48)) / 10 = ev 0 t by omega, show (10 * ev 0 t + (c.toNat - 48)) % 10 = c.toNat - 48 by omega, ← hi, hc]
theorem dec_len : ∀ k n, n < 10 ^ (k + 1) → (Lib.decDigits n).length ≤ k + 1 := by
  intro k
  induction k with
  | zero => intro n h; rw [Lib.decDigits_one (by simpa using h)]; simp
  | succ k ih =>
    intro n h
    by_cases h10 : n < 10
    · rw [Lib.decDigits_one h10]; simp
    · rw [Lib.decDigits, dif_neg h10, List.length_append]
      have := ih (n / 10) (by rw [Nat.div_lt_iff_lt_mul (by decide)]; rw [Nat.pow_succ] at h; exact h)
      simp; omega

theorem pm_of (M : Nat) (hM : M < 18446744073709551616) : ∀ (l : List UInt8) (acc : Nat), isD l = true → ev acc l ≤ M → Lib.parseUintM M acc l = .ok (ev acc l) := by
  intro l
  induction l with
  | nil => intro acc _ _; rw [ev_nil]; rfl
  | cons c r ih =>
    intro acc hD hv
    have hd : 48 ≤ c.toNat ∧ c.toNat ≤ 57 := by unfold isD at hD; simp at hD; exact hD.1
    have hr : isD r = true := by unfold isD at hD ⊢; rw [List.all_cons, Bool.and_eq_true] at hD; exact hD.2
    have h2 := ev_ge r (10 * acc + (c.toNat - 48))
    rw [ev_cons] at hv
    rw [ev_cons]
    simp only [Lib.parseUintM]
    rw [if_pos hd, if_neg (by omega), if_neg (by omega), show acc * 10 + (c.toNat - 48) = 10 * acc + (c.toNat - 48) by omega]
    exact ih _ hr hv
theorem pm_le (M : Nat) : ∀ (l : List UInt8) (acc u : Nat), acc ≤ M → Lib.parseUintM M acc l = .ok u → u ≤ M := by
  intro l
  induction l with
  | nil => intro acc u h e; simp only [Lib.parseUintM] at e; injection e with e; omega
  | cons c r ih =>
    intro acc u h e
    simp only [Lib.parseUintM] at e
    split at e
    · split at e
      · cases e
      · split at e
        · cases e
        · exact ih _ _ (by omega) e
    · cases e
/-- a numeral in tens, at most M, is just that: read -/
theorem rd10_iff (M : Nat) (h9 : 9 ≤ M) (s : List UInt8) (n : Nat) : rdB 10 M s = some n ↔ (s = Lib.decDigits n ∧ n ≤ M) := by
  constructor
  · intro h
    unfold rdB at h
    split at h
    · cases h
    · rename_i h0
      rw [rdg_eq _ h9 _ _ (Nat.zero_le _)] at h
      split at h
      · rename_i h1
        cases h
        exact ⟨dec_unique s h1.1 (fun e => h0 (.inl e)) (fun e => h0 (.inr e)), h1.2⟩
      · cases h
  · rintro ⟨rfl, h⟩
    obtain ⟨h1, h2, h3, h4⟩ := dec_facts n
    unfold rdB
    rw [if_neg, rdg_eq _ h9 _ _ (Nat.zero_le _), if_pos ⟨h1, by rw [h2]; exact h⟩, h2]
    rintro (e | ⟨e1, e2⟩)
    · exact h3 e
    · by_cases h0 : 0 < n
      · exact h4 h0 e2
      · obtain rfl : n = 0 := by omega
        rw [Lib.decDigits_one (by decide)] at e1; simp at e1
/-- what ParseUint tells in tens, and whether it is told so again -/
theorem pu10 (B : Nat) (hB : B = 32 ∨ B = 64) (s : List UInt8) : (∀ u, Lib.parseUintB B s = .ok u → (decide (Lib.decDigits u = s) = (rdB 10 (2 ^ B - 1) s).isSome) ∧ ∀ n, rdB 10 (2 ^ B - 1) s = some n → u = n) ∧ ((∀ u, Lib.parseUintB B s ≠ .ok u) → rdB 10 (2 ^ B - 1) s = none) := by
  have h9 : 9 ≤ 2 ^ B - 1 := by rcases hB with rfl | rfl <;> decide
  have hM : 2 ^ B - 1 < 18446744073709551616 := by rcases hB with rfl | rfl <;> decide
  have key : ∀ n, rdB 10 (2 ^ B - 1) s = some n → Lib.parseUintB B s = .ok n := fun n h => by
    obtain ⟨rfl, hn⟩ := (rd10_iff _ h9 s n).1 h
    obtain ⟨h1, h2, h3, _⟩ := dec_facts n
    unfold Lib.parseUintB
    rw [if_neg h3]
    have := pm_of (2 ^ B - 1) hM _ 0 h1 (by rw [h2]; exact hn)
    rw [h2] at this; exact this
  refine ⟨fun u h => ⟨?_, fun n hn => ?_⟩, fun h => ?_⟩
  · have hu : u ≤ 2 ^ B - 1 := by
      unfold Lib.parseUintB at h
      split at h
      · cases h
      · exact pm_le _ _ _ _ (Nat.zero_le _) h
    rw [Bool.eq_iff_iff, decide_eq_true_iff, Option.isSome_iff_exists]
    constructor
    · intro e; exact ⟨u, (rd10_iff _ h9 s u).2 ⟨e.symm, hu⟩⟩
    · rintro ⟨n, hn⟩
      have := key n hn
      rw [h] at this; injection this with this
      rw [this]; exact ((rd10_iff _ h9 s n).1 hn).1.symm
  · have := key n hn
    rw [h] at this; injection this
  · cases hn : rdB 10 (2 ^ B - 1) s with
    | none => rfl
    | some n => exact absurd (key n hn) (h n)
/-- the number with a sign, of so many bits, that a text tells -/
def rdI (B : Nat) (s : List UInt8) : Option Int := match Lib.parseIntB B s with
  | .ok v => if Lib.itoa v = s then some v else none
  | _ => none
theorem pi_of (B : Nat) (hB : B = 32 ∨ B = 64) (v : Int) (h0 : -(2 ^ (B - 1) : Nat) ≤ v) (h1 : v < (2 ^ (B - 1) : Nat)) : Lib.parseIntB B (Lib.itoa v) = .ok v := by
  have hM : 2 ^ B - 1 < 18446744073709551616 := by rcases hB with rfl | rfl <;> decide
  have hP : 2 ^ B = 2 * 2 ^ (B - 1) := by rcases hB with rfl | rfl <;> rfl
  have hpos : 0 < 2 ^ (B - 1) := Nat.two_pow_pos _
  have key : ∀ n, n ≤ 2 ^ B - 1 → Lib.parseUintB B (Lib.decDigits n) = .ok n := fun n hn => by
    obtain ⟨q1, q2, q3, _⟩ := dec_facts n
    unfold Lib.parseUintB
    rw [if_neg q3]
    have := pm_of (2 ^ B - 1) hM _ 0 q1 (by rw [q2]; exact hn)
    rw [q2] at this; exact this
  by_cases hn : 0 ≤ v
  · obtain ⟨n, rfl⟩ : ∃ n : Nat, v = (n : Int) := ⟨v.toNat, by omega⟩
    rw [Lib.itoa_nonneg]
    have hk := key n (by omega)
    obtain ⟨q1, q2, q3, _⟩ := dec_facts n
    revert hk q1 q3
    generalize Lib.decDigits n = s
    intro hk q1 q3
    cases s with
    | nil => exact absurd rfl q3
    | cons c r =>
      have hd : 48 ≤ c.toNat ∧ c.toNat ≤ 57 := by unfold isD at q1; simp at q1; exact q1.1
      unfold Lib.parseIntB
      simp only []
      rw [if_neg (show ¬ (c.toNat = 43 ∨ c.toNat = 45) by omega), hk]
      simp only []
      rw [if_neg (by omega), if_neg (by omega), if_neg (by omega)]
  · obtain ⟨n, rfl, hn1⟩ : ∃ n : Nat, v = -(n : Int) ∧ 1 ≤ n := ⟨(-v).toNat, by omega, by omega⟩
    rw [Lib.itoa_neg n hn1]
    have hk := key n (by omega)
    unfold Lib.parseIntB
    simp only []
    have e45 : (45 : UInt8).toNat = 45 := rfl
    rw [if_pos (show ((45 : UInt8).toNat = 43 ∨ (45 : UInt8).toNat = 45) from .inr rfl), hk]
    simp only []
    rw [if_neg (by simp), if_neg (by omega), if_pos e45]
theorem pi_range (B : Nat) (hB : B = 32 ∨ B = 64) (s : List UInt8) (v : Int) (h : Lib.parseIntB B s = .ok v) : -(2 ^ (B - 1) : Nat) ≤ v ∧ v < (2 ^ (B - 1) : Nat) := by
  have hpos : 0 < 2 ^ (B - 1) := Nat.two_pow_pos _
  unfold Lib.parseIntB at h
  cases s with
  | nil => cases h
  | cons c r =>
    simp only [] at h
    split at h
    · cases h
    · cases h
    · split at h
      · cases h
      · split at h
        · cases h
        · rename_i h1 h2
          injection h with h
          by_cases q : c.toNat = 45
          · rw [if_pos q] at h; omega
          · rw [if_neg q] at h; omega
theorem rdI_iff (B : Nat) (hB : B = 32 ∨ B = 64) (s : List UInt8) (v : Int) : rdI B s = some v ↔ (s = Lib.itoa v ∧ -(2 ^ (B - 1) : Nat) ≤ v ∧ v < (2 ^ (B - 1) : Nat)) := by
  constructor
  · intro h
    unfold rdI at h
    split at h
    · rename_i u hu
      split at h
      · rename_i e
        injection h with h
        subst h
        exact ⟨e.symm, pi_range B hB s u hu⟩
      · cases h
    · cases h
  · rintro ⟨rfl, h0, h1⟩
    unfold rdI
    rw [pi_of B hB v h0 h1]
    simp
/-! in sixteens -/
def hxD (d : Nat) : UInt8 := UInt8.ofNat (if d < 10 then 48 + d else 87 + d)
def hexDigits (n : Nat) : List UInt8 := if h : n < 16 then [hxD n] else hexDigits (n / 16) ++ [hxD (n % 16)]
termination_by n
theorem hex_one {n : Nat} (h : n < 16) : hexDigits n = [hxD n] := by rw [hexDigits, dif_pos h]
theorem hxD_nat (d : Nat) (h : d < 16) : (hxD d).toNat = if d < 10 then 48 + d else 87 + d := by
  unfold hxD
  rw [UInt8.toNat_ofNat_of_lt' (by show _ < 256; split <;> omega)]
theorem dv_hx (d : Nat) (h : d < 16) : dv (hxD d) = d := by
  unfold dv
  rw [hxD_nat d h]
  by_cases q : d < 10
  · rw [if_pos q, if_pos (by omega)]; omega
  · rw [if_neg q, if_neg (by omega), if_pos (by omega)]; omega
theorem hx_dv (c : UInt8) (h : dv c < 16) : hxD (dv c) = c := by
  apply UInt8.toNat_inj.1
  rw [hxD_nat _ h]
  unfold dv at h ⊢
  by_cases q : 48 ≤ c.toNat ∧ c.toNat ≤ 57
  · rw [if_pos q]; rw [if_pos (by omega)]; omega
  · rw [if_neg q] at h ⊢
    by_cases r : 97 ≤ c.toNat ∧ c.toNat ≤ 102
    · rw [if_pos r]; rw [if_neg (by omega)]; omega
    · rw [if_neg r] at h; omega
def isH (s : List UInt8) : Bool := s.all fun c => decide (dv c < 16)
def eh (v : Nat) (s : List UInt8) : Nat := s.foldl (fun v c => 16 * v + dv c) v
theorem eh_cons (v : Nat) (c : UInt8) (r : List UInt8) : eh v (c :: r) = eh (16 * v + dv c) r := by unfold eh; rw [List.foldl_cons]
theorem eh_nil (v : Nat) : eh v [] = v := by unfold eh; rw [List.foldl_nil]
theorem eh_ge : ∀ (s : List UInt8) (v : Nat), v ≤ eh v s
  | [], v => by rw [eh_nil]; exact Nat.le_refl _
  | c :: r, v => by
    rw [eh_cons]
    exact Nat.le_trans (by omega) (eh_ge r (16 * v + dv c))
theorem eh_snoc (s : List UInt8) (c : UInt8) (v : Nat) : eh v (s ++ [c]) = 16 * eh v s + dv c := by
  unfold eh; rw [List.foldl_append]; rfl
theorem rdh_eq (M : Nat) (hM : 15 ≤ M) (s : List UInt8) : ∀ v, v ≤ M → rdg 16 M v s = if isH s = true ∧ eh v s ≤ M then some (eh v s) else none := by
  induction s with
  | nil => intro v hv; rw [rdg, eh_nil]; simp [isH, hv]
  | cons c r ih =>
    intro v hv
    rw [rdg]
    by_cases hd : dv c < 16
    · have hD : isH (c :: r) = isH r := by unfold isH; simp [hd]
      rw [hD]
      by_cases hq : 16 * v + dv c ≤ M
      · rw [if_neg (by omega), ih _ hq, eh_cons]
      · rw [if_pos (by omega), if_neg]
        rintro ⟨_, h⟩
        have := eh_ge r (16 * v + dv c)
        rw [eh_cons] at h; omega
    · have hD : isH (c :: r) = false := by unfold isH; simp [hd]
      rw [if_pos (.inl (by omega)), hD, if_neg (by simp)]
theorem hex_facts : ∀ n, isH (hexDigits n) = true ∧ eh 0 (hexDigits n) = n ∧ hexDigits n ≠ [] ∧ (0 < n → (hexDigits n).getD 0 0 ≠ 48) := by
  intro n
  induction n using Nat.strongRecOn with
  | ind n ih =>
    by_cases h : n < 16
    · rw [hex_one h]
      have hd := dv_hx n h
      refine ⟨by simp [isH, hd, h], by rw [eh_cons, eh_nil, hd]; omega, by simp, fun h0 e => ?_⟩
      have h2 : hxD n = 48 := by simpa using e
      have := congrArg UInt8.toNat h2
      rw [hxD_nat n h] at this
      simp at this
      split at this <;> omega
    · obtain ⟨h1, h2, h3, h4⟩ := ih (n / 16) (by omega)
      rw [hexDigits, dif_neg h]
      have hd := dv_hx (n % 16) (by omega)
      refine ⟨?_, ?_, by simp, fun _ => ?_⟩
      · unfold isH at h1 ⊢; rw [List.all_append, h1]; simp [hd]; omega
      · rw [eh_snoc, h2, hd]; omega
      · have h5 := h4 (by omega)
        revert h3 h5
        cases hexDigits (n / 16) with
        | nil => simp
        | cons a l => simp
theorem hex_unique (s : List UInt8) (hD : isH s = true) (h0 : s ≠ []) (hz : ¬ (1 < s.length ∧ s.getD 0 0 = 48)) : s = hexDigits (eh 0 s) := by
  obtain ⟨n, hn⟩ : ∃ n, n = s.length := ⟨_, rfl⟩
  induction n generalizing s with
  | zero => exact absurd (List.length_eq_zero_iff.1 hn.symm) h0
  | succ n ih =>
    obtain ⟨t, c, rfl⟩ : ∃ t c, s = t ++ [c] := ⟨s.dropLast, s.getLast h0, (List.dropLast_concat_getLast h0).symm⟩
    have hD2 : isH t = true ∧ dv c < 16 := by
      unfold isH at hD ⊢; rw [List.all_append, Bool.and_eq_true] at hD
      exact ⟨hD.1, by simpa using hD.2⟩
    rw [eh_snoc]
    have hc := hx_dv c hD2.2
    by_cases ht : t = []
    · subst ht
      rw [eh_nil, List.nil_append, Nat.mul_zero, Nat.zero_add, hex_one hD2.2, hc]
    · have htl : 0 < t.length := List.length_pos_iff.2 ht
      have hg : (t ++ [c]).getD 0 0 = t.getD 0 0 := by
        cases t with
        | nil => exact absurd rfl ht
        | cons a l => rfl
      have hz2 : t.getD 0 0 ≠ 48 := fun e => hz ⟨by simp; omega, by rw [hg]; exact e⟩
      have hi := ih t hD2.1 ht (fun h => hz2 h.2) (by simp at hn; omega)
      have hm : eh 0 t ≠ 0 := by
        intro e
        rw [e, hex_one (by decide)] at hi
        rw [hi] at hz2
        exact hz2 rfl
      rw [hexDigits, dif_neg (by omega), show (16 * eh 0 t + dv c) / 16 = eh 0 t by omega, show (16 * eh 0 t + dv c) % 16 = dv c by omega, ← hi, hc]
theorem rd16_iff (M : Nat) (h9 : 15 ≤ M) (s : List UInt8) (n : Nat) : rdB 16 M s = some n ↔ (s = hexDigits n ∧ n ≤ M) := by
  constructor
  · intro h
    unfold rdB at h
    split at h
    · cases h
    · rename_i h0
      rw [rdh_eq _ h9 _ _ (Nat.zero_le _)] at h
      split at h
      · rename_i h1
        cases h
        exact ⟨hex_unique s h1.1 (fun e => h0 (.inl e)) (fun e => h0 (.inr e)), h1.2⟩
      · cases h
  · rintro ⟨rfl, h⟩
    obtain ⟨h1, h2, h3, h4⟩ := hex_facts n
    unfold rdB
    rw [if_neg, rdh_eq _ h9 _ _ (Nat.zero_le _), if_pos ⟨h1, by rw [h2]; exact h⟩, h2]
    rintro (e | ⟨e1, e2⟩)
    · exact h3 e
    · by_cases h0 : 0 < n
      · exact h4 h0 e2
      · obtain rfl : n = 0 := by omega
        rw [hex_one (by decide)] at e1; simp at e1
theorem hex_len : ∀ k n, n < 16 ^ (k + 1) → (hexDigits n).length ≤ k + 1 := by
  intro k
  induction k with
  | zero => intro n h; rw [hex_one (by simpa using h)]; simp
  | succ k ih =>
    intro n h
    by_cases h10 : n < 16
    · rw [hex_one h10]; simp
    · rw [hexDigits, dif_neg h10, List.length_append]
      have := ih (n / 16) (by rw [Nat.div_lt_iff_lt_mul (by decide)]; rw [Nat.pow_succ] at h; exact h)
      simp; omega
/-- a byte's value, as ParseUint reads it in sixteens: great letters too -/
def du (c : UInt8) : Nat := if 48 ≤ c.toNat ∧ c.toNat ≤ 57 then c.toNat - 48 else if 97 ≤ (c.toNat ||| 32) ∧ (c.toNat ||| 32) ≤ 122 then (c.toNat ||| 32) - 87 else 99
def px (M : Nat) : Nat → List UInt8 → Option Nat
  | v, [] => some v
  | v, c :: r => if 16 ≤ du c ∨ 1152921504606846976 ≤ v ∨ M < 16 * v + du c then none else px M (16 * v + du c) r
def puH (M : Nat) (s : List UInt8) : Option Nat := if s = [] then none else px M 0 s
theorem du_dv (c : UInt8) (h : dv c < 16) : du c = dv c := by
  unfold dv at h
  unfold du dv
  by_cases q : 48 ≤ c.toNat ∧ c.toNat ≤ 57
  · rw [if_pos q, if_pos q]
  · rw [if_neg q] at h ⊢
    rw [if_neg q]
    by_cases r : 97 ≤ c.toNat ∧ c.toNat ≤ 102
    · have : c.toNat ||| 32 = c.toNat := by
        have : ∀ k : Fin 256, 97 ≤ k.val → k.val ≤ 102 → k.val ||| 32 = k.val := by decide +kernel
        exact this ⟨c.toNat, c.toNat_lt⟩ r.1 r.2
      rw [this, if_pos (by omega), if_pos r]
    · rw [if_neg r] at h; omega
theorem px_of (M : Nat) (hM : M < 18446744073709551616) : ∀ (l : List UInt8) (v : Nat), isH l = true → eh v l ≤ M → px M v l = some (eh v l) := by
  intro l
  induction l with
  | nil => intro v _ _; rw [eh_nil]; rfl
  | cons c r ih =>
    intro v hD hv
    have hd : dv c < 16 := by unfold isH at hD; simp at hD; exact hD.1
    have hr : isH r = true := by unfold isH at hD ⊢; rw [List.all_cons, Bool.and_eq_true] at hD; exact hD.2
    have h2 := eh_ge r (16 * v + dv c)
    rw [eh_cons] at hv
    rw [eh_cons]
    simp only [px]
    rw [du_dv c hd, if_neg (by omega)]
    exact ih _ hr hv
theorem px_le (M : Nat) : ∀ (l : List UInt8) (v u : Nat), v ≤ M → px M v l = some u → u ≤ M := by
  intro l
  induction l with
  | nil => intro v u h e; simp only [px] at e; injection e with e; omega
  | cons c r ih =>
    intro v u h e
    simp only [px] at e
    split at e
    · cases e
    · exact ih _ _ (by omega) e
/-- what ParseUint tells in sixteens, and whether it is told so again -/
theorem pu16 (M : Nat) (hM : M < 18446744073709551616) (h15 : 15 ≤ M) (s : List UInt8) : (∀ u, puH M s = some u → (decide (hexDigits u = s) = (rdB 16 M s).isSome) ∧ ∀ n, rdB 16 M s = some n → u = n) ∧ (puH M s = none → rdB 16 M s = none) := by
  have key : ∀ n, rdB 16 M s = some n → puH M s = some n := fun n h => by
    obtain ⟨rfl, hn⟩ := (rd16_iff _ h15 s n).1 h
    obtain ⟨h1, h2, h3, _⟩ := hex_facts n
    unfold puH
    rw [if_neg h3]
    have := px_of M hM _ 0 h1 (by rw [h2]; exact hn)
    rw [h2] at this; exact this
  refine ⟨fun u h => ⟨?_, fun n hn => ?_⟩, fun h => ?_⟩
  · have hu : u ≤ M := by
      unfold puH at h
      split at h
      · cases h
      · exact px_le _ _ _ _ (Nat.zero_le _) h
    rw [Bool.eq_iff_iff, decide_eq_true_iff, Option.isSome_iff_exists]
    constructor
    · intro e; exact ⟨u, (rd16_iff _ h15 s u).2 ⟨e.symm, hu⟩⟩
    · rintro ⟨n, hn⟩
      have := key n hn
      rw [h] at this; injection this with this
      rw [this]; exact ((rd16_iff _ h15 s n).1 hn).1.symm
  · have := key n hn
    rw [h] at this; injection this
  · cases hn : rdB 16 M s with
    | none => rfl
    | some n => have := key n hn; rw [h] at this; cases this
end Go.Proofs.YtggfaalodojjkaaGreatDoor
