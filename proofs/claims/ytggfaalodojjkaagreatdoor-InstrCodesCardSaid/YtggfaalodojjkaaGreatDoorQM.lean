/-
  Plain mathematics of the numbers' bytes (LEB128): what the program's reading and the document's reading come to, and that they are the same. No program is named here.
-/
namespace Go.Proofs.YtggfaalodojjkaaGreatDoor.Leb

def val : List Nat → Nat
  | [] => 0
  | c :: t => c % 128 + 128 * val t
def svl : List Nat → Int
  | [] => 0
  | [c] => if c % 128 < 64 then ((c % 128 : Nat) : Int) else ((c % 128 : Nat) : Int) - 128
  | c :: d :: t => ((c % 128 : Nat) : Int) + 128 * svl (d :: t)
def ext (last : Nat) (ok : Nat → Bool) : List Nat → Nat → Nat × Nat
  | [], _ => (0, 3)
  | c :: t, i => if i = last ∧ ok c = false then (0, 4) else if c < 128 then (i + 1, 0) else ext last ok t (i + 1)
def rdE (n : Nat) : List Nat → Nat → Nat × Nat
  | [], _ => (0, 3)
  | c :: t, i => if n ≤ 7 * (i + 1) ∧ 128 ≤ c then (0, 4) else if c < 128 then (i + 1, 0) else rdE n t (i + 1)
def zok (own c : Nat) : Bool := decide (c < 2 ^ own)
def sok (own c : Nat) : Bool := decide (c < 128) && (decide (c < 2 ^ (own - 1)) || decide (128 ≤ c + 2 ^ (own - 1)))

theorem rdE_size (n : Nat) : ∀ (t : List Nat) (i : Nat), (rdE n t i).2 = 0 → i + 1 ≤ (rdE n t i).1 ∧ (rdE n t i).1 ≤ i + t.length ∧ 0 < t.length := by
  intro t
  induction t with
  | nil => intro i h; simp [rdE] at h
  | cons c t ih =>
    intro i h
    by_cases h1 : n ≤ 7 * (i + 1) ∧ 128 ≤ c
    · rw [rdE, if_pos h1] at h; simp at h
    · rw [rdE, if_neg h1] at h ⊢
      by_cases h2 : c < 128
      · rw [if_pos h2]; simp
      · rw [if_neg h2] at h ⊢
        have := ih (i + 1) h
        simp only [List.length_cons]; omega
theorem ext_size (last : Nat) (ok : Nat → Bool) : ∀ (t : List Nat) (i : Nat), (ext last ok t i).2 = 0 → i + 1 ≤ (ext last ok t i).1 ∧ (ext last ok t i).1 ≤ i + t.length ∧ 0 < t.length := by
  intro t
  induction t with
  | nil => intro i h; simp [ext] at h
  | cons c t ih =>
    intro i h
    by_cases h1 : i = last ∧ ok c = false
    · rw [ext, if_pos h1] at h; simp at h
    · rw [ext, if_neg h1] at h ⊢
      by_cases h2 : c < 128
      · rw [if_pos h2]; simp
      · rw [if_neg h2] at h ⊢
        have := ih (i + 1) h
        simp only [List.length_cons]; omega
theorem ext_bad (last : Nat) (ok : Nat → Bool) : ∀ (t : List Nat) (i : Nat), (ext last ok t i).2 ≠ 0 → (ext last ok t i).1 = 0 := by
  intro t
  induction t with
  | nil => intro i _; rfl
  | cons c t ih =>
    intro i h
    rw [ext] at h ⊢
    split
    · rfl
    · rename_i h1
      rw [if_neg h1] at h
      split
      · rename_i h2; rw [if_pos h2] at h; simp at h
      · rename_i h2; rw [if_neg h2] at h; exact ih _ h
theorem rdE_bad (n : Nat) : ∀ (t : List Nat) (i : Nat), (rdE n t i).2 ≠ 0 → (rdE n t i).1 = 0 := by
  intro t
  induction t with
  | nil => intro i _; rfl
  | cons c t ih =>
    intro i h
    rw [rdE] at h ⊢
    split
    · rfl
    · rename_i h1
      rw [if_neg h1] at h
      split
      · rename_i h2; rw [if_pos h2] at h; simp at h
      · rename_i h2; rw [if_neg h2] at h; exact ih _ h

theorem pow7 (a : Nat) : 2 ^ (a + 7) = 128 * 2 ^ a := by rw [Nat.pow_add]; omega
theorem pow7' (a b : Nat) (h : a = b + 7) : 2 ^ a = 128 * 2 ^ b := by rw [h, pow7]
theorem pow_le {a b : Nat} (h : a ≤ b) : 2 ^ a ≤ 2 ^ b := Nat.pow_le_pow_right (by omega) h
theorem ipow_cast (a : Nat) : (2 : Int) ^ a = ((2 ^ a : Nat) : Int) := by simp

/-- the two readings part nowhere: without a sign -/
theorem ext_z (n last own : Nat) (hn : n = 7 * last + own) (h1 : 1 ≤ own) (h7 : own ≤ 7) : ∀ (t : List Nat) (i : Nat), i ≤ last →
    ext last (zok own) t i = if (rdE n t i).2 = 0 then (if val (t.take ((rdE n t i).1 - i)) < 2 ^ (n - 7 * i) then rdE n t i else (0, 4)) else rdE n t i := by
  intro t
  induction t with
  | nil => intro i _; simp [ext, rdE]
  | cons c t ih =>
    intro i hi
    have p128 : 2 ^ own ≤ 128 := by have := pow_le h7; omega
    by_cases hl : i = last
    · subst hl
      by_cases hc : c < 128
      · have hr : rdE n (c :: t) i = (i + 1, 0) := by rw [rdE, if_neg (by omega), if_pos hc]
        rw [hr]
        have e1 : n - 7 * i = own := by omega
        have e2 : i + 1 - i = 1 := by omega
        have e3 : val ((c :: t).take 1) = c := by simp [val]; omega
        simp only [e1, e2, e3]
        by_cases hz : c < 2 ^ own
        · rw [ext, if_neg (by simp [zok, hz]), if_pos hc]; simp [hz]
        · rw [ext, if_pos (by simp [zok, hz])]; simp [hz]
      · have hr : rdE n (c :: t) i = (0, 4) := by rw [rdE, if_pos (by omega)]
        rw [hr, ext, if_pos (by refine ⟨rfl, ?_⟩; simp only [zok, decide_eq_false_iff_not]; omega)]
        simp
    · have hlt : i < last := by omega
      have hq : 2 ^ (n - 7 * i) = 128 * 2 ^ (n - 7 * (i + 1)) := pow7' _ _ (by omega)
      have hpos : 1 ≤ 2 ^ (n - 7 * (i + 1)) := Nat.one_le_two_pow
      by_cases hc : c < 128
      · have hr : rdE n (c :: t) i = (i + 1, 0) := by rw [rdE, if_neg (by omega), if_pos hc]
        have e2 : i + 1 - i = 1 := by omega
        have e3 : val ((c :: t).take 1) = c := by simp [val]; omega
        rw [hr]
        simp only [e2, e3]
        rw [ext, if_neg (by omega), if_pos hc, if_pos trivial, if_pos (by omega)]
      · have hr : rdE n (c :: t) i = rdE n t (i + 1) := by rw [rdE, if_neg (by omega), if_neg hc]
        rw [hr, ext, if_neg (by omega), if_neg hc, ih (i + 1) (by omega)]
        by_cases he : (rdE n t (i + 1)).2 = 0
        · have hs := rdE_size n t (i + 1) he
          have ek : (rdE n t (i + 1)).1 - i = ((rdE n t (i + 1)).1 - (i + 1)) + 1 := by omega
          rw [if_pos he, if_pos he, ek, List.take_succ_cons, val]
          have : (c % 128 + 128 * val (t.take ((rdE n t (i + 1)).1 - (i + 1))) < 2 ^ (n - 7 * i)) ↔ val (t.take ((rdE n t (i + 1)).1 - (i + 1))) < 2 ^ (n - 7 * (i + 1)) := by rw [hq]; omega
          by_cases hv : val (t.take ((rdE n t (i + 1)).1 - (i + 1))) < 2 ^ (n - 7 * (i + 1))
          · rw [if_pos hv, if_pos (this.2 hv)]
          · rw [if_neg hv, if_neg (fun h => hv (this.1 h))]
        · rw [if_neg he, if_neg he]

def fit (n : Nat) (s : Int) : Prop := -(2 ^ (n - 1) : Int) ≤ s ∧ s < 2 ^ (n - 1)
instance (n : Nat) (s : Int) : Decidable (fit n s) := by unfold fit; infer_instance

theorem svl_one (c : Nat) : svl [c] = if c % 128 < 64 then ((c % 128 : Nat) : Int) else ((c % 128 : Nat) : Int) - 128 := rfl
theorem svl_cons (c : Nat) (l : List Nat) (h : l ≠ []) : svl (c :: l) = ((c % 128 : Nat) : Int) + 128 * svl l := by
  cases l with
  | nil => exact absurd rfl h
  | cons d t => rfl

/-- the two readings part nowhere: with a sign -/
theorem ext_s (n last own : Nat) (hn : n = 7 * last + own) (h1 : 1 ≤ own) (h7 : own ≤ 7) : ∀ (t : List Nat) (i : Nat), i ≤ last →
    ext last (sok own) t i = if (rdE n t i).2 = 0 then (if fit (n - 7 * i) (svl (t.take ((rdE n t i).1 - i))) then rdE n t i else (0, 4)) else rdE n t i := by
  intro t
  induction t with
  | nil => intro i _; simp [ext, rdE]
  | cons c t ih =>
    intro i hi
    have p64 : 2 ^ (own - 1) ≤ 64 := by have := pow_le (a := own - 1) (b := 6) (by omega); omega
    have p1 : 1 ≤ 2 ^ (own - 1) := Nat.one_le_two_pow
    by_cases hl : i = last
    · subst hl
      by_cases hc : c < 128
      · have hr : rdE n (c :: t) i = (i + 1, 0) := by rw [rdE, if_neg (by omega), if_pos hc]
        rw [hr]
        have e1 : n - 7 * i = own := by omega
        have e2 : i + 1 - i = 1 := by omega
        have e3 : (c :: t).take 1 = [c] := by simp
        simp only [e1, e2, e3]
        have hm : c % 128 = c := by omega
        have hf : fit own (svl [c]) ↔ (c < 2 ^ (own - 1) ∨ 128 ≤ c + 2 ^ (own - 1)) := by
          unfold fit
          rw [svl_one, hm, ipow_cast]
          split <;> omega
        by_cases hz : c < 2 ^ (own - 1) ∨ 128 ≤ c + 2 ^ (own - 1)
        · rw [ext, if_neg (by rintro ⟨_, h⟩; simp [sok] at h; omega), if_pos hc, if_pos trivial, if_pos (hf.2 hz)]
        · rw [ext, if_pos (by refine ⟨rfl, ?_⟩; simp [sok]; omega), if_pos trivial, if_neg (fun h => hz (hf.1 h))]
      · have hr : rdE n (c :: t) i = (0, 4) := by rw [rdE, if_pos (by omega)]
        rw [hr, ext, if_pos (by refine ⟨rfl, ?_⟩; simp [sok]; omega)]
        simp
    · have hlt : i < last := by omega
      have hq : 2 ^ (n - 7 * i - 1) = 128 * 2 ^ (n - 7 * (i + 1) - 1) := pow7' _ _ (by omega)
      have hpos : 1 ≤ 2 ^ (n - 7 * (i + 1) - 1) := Nat.one_le_two_pow
      by_cases hc : c < 128
      · have hr : rdE n (c :: t) i = (i + 1, 0) := by rw [rdE, if_neg (by omega), if_pos hc]
        have e2 : i + 1 - i = 1 := by omega
        have e3 : (c :: t).take 1 = [c] := by simp
        rw [hr]
        simp only [e2, e3]
        rw [ext, if_neg (by omega), if_pos hc, if_pos trivial, if_pos]
        unfold fit
        rw [svl_one, ipow_cast, hq]
        split <;> omega
      · have hr : rdE n (c :: t) i = rdE n t (i + 1) := by rw [rdE, if_neg (by omega), if_neg hc]
        rw [hr, ext, if_neg (by omega), if_neg hc, ih (i + 1) (by omega)]
        by_cases he : (rdE n t (i + 1)).2 = 0
        · have hs := rdE_size n t (i + 1) he
          have ek : (rdE n t (i + 1)).1 - i = ((rdE n t (i + 1)).1 - (i + 1)) + 1 := by omega
          rw [if_pos he, if_pos he, ek, List.take_succ_cons, svl_cons _ _ (by
            intro h0
            have := congrArg List.length h0
            rw [List.length_take, List.length_nil] at this
            omega)]
          have : fit (n - 7 * i) (((c % 128 : Nat) : Int) + 128 * svl (t.take ((rdE n t (i + 1)).1 - (i + 1)))) ↔ fit (n - 7 * (i + 1)) (svl (t.take ((rdE n t (i + 1)).1 - (i + 1)))) := by
            unfold fit
            rw [ipow_cast, ipow_cast, hq]
            omega
          by_cases hv : fit (n - 7 * (i + 1)) (svl (t.take ((rdE n t (i + 1)).1 - (i + 1))))
          · rw [if_pos hv, if_pos (this.2 hv)]
          · rw [if_neg hv, if_neg (fun h => hv (this.1 h))]
        · rw [if_neg he, if_neg he]

/-! what the program's and the document's calls answer -/
def bad (n : Int) : Prop := n < 1 ∨ 64 < n
instance (n : Int) : Decidable (bad n) := by unfold bad; infer_instance
def last (n : Int) : Nat := (n.toNat - 1) / 7
def own (n : Int) : Nat := n.toNat - 7 * last n
def uns (b : List Nat) (n : Int) : Nat × Nat × Nat :=
  if bad n then (0, 0, 1) else if (rdE n.toNat b 0).2 = 0 then
    (if val (b.take (rdE n.toNat b 0).1) < 2 ^ n.toNat then (val (b.take (rdE n.toNat b 0).1), (rdE n.toNat b 0).1, 0) else (0, 0, 4))
  else (0, 0, (rdE n.toNat b 0).2)
def sgn (b : List Nat) (n : Int) : Int × Nat × Nat :=
  if bad n then (0, 0, 1) else if (rdE n.toNat b 0).2 = 0 then
    (if fit n.toNat (svl (b.take (rdE n.toNat b 0).1)) then (svl (b.take (rdE n.toNat b 0).1), (rdE n.toNat b 0).1, 0) else (0, 0, 4))
  else (0, 0, (rdE n.toNat b 0).2)
theorem own_bd {n : Int} (h : ¬ bad n) : 1 ≤ own n ∧ own n ≤ 7 ∧ n.toNat = 7 * last n + own n ∧ last n ≤ 9 := by
  unfold bad at h; unfold own last; omega
theorem uns_ext (b : List Nat) (n : Int) : uns b n =
    if bad n then (0, 0, 1) else if (ext (last n) (zok (own n)) b 0).2 = 0 then (val (b.take (ext (last n) (zok (own n)) b 0).1), (ext (last n) (zok (own n)) b 0).1, 0) else (0, 0, (ext (last n) (zok (own n)) b 0).2) := by
  unfold uns
  by_cases h : bad n
  · rw [if_pos h, if_pos h]
  · rw [if_neg h, if_neg h]
    obtain ⟨h1, h7, hn, _⟩ := own_bd h
    rw [ext_z n.toNat (last n) (own n) hn h1 h7 b 0 (by omega)]
    simp only [Nat.sub_zero, Nat.mul_zero]
    by_cases he : (rdE n.toNat b 0).2 = 0
    · simp only [if_pos he]
      by_cases hv : val (b.take (rdE n.toNat b 0).1) < 2 ^ n.toNat
      · simp only [if_pos hv, if_pos he]
      · simp [if_neg hv]
    · simp only [if_neg he]
theorem sgn_ext (b : List Nat) (n : Int) : sgn b n =
    if bad n then (0, 0, 1) else if (ext (last n) (sok (own n)) b 0).2 = 0 then (svl (b.take (ext (last n) (sok (own n)) b 0).1), (ext (last n) (sok (own n)) b 0).1, 0) else (0, 0, (ext (last n) (sok (own n)) b 0).2) := by
  unfold sgn
  by_cases h : bad n
  · rw [if_pos h, if_pos h]
  · rw [if_neg h, if_neg h]
    obtain ⟨h1, h7, hn, _⟩ := own_bd h
    rw [ext_s n.toNat (last n) (own n) hn h1 h7 b 0 (by omega)]
    simp only [Nat.sub_zero, Nat.mul_zero]
    by_cases he : (rdE n.toNat b 0).2 = 0
    · simp only [if_pos he]
      by_cases hv : fit n.toNat (svl (b.take (rdE n.toNat b 0).1))
      · simp only [if_pos hv, if_pos he]
      · simp [if_neg hv]
    · simp only [if_neg he]

/-! the bits of bytes -/
def bit (l : List Nat) (j : Nat) : Bool := decide (l.getD (j / 7) 0 / 2 ^ (j % 7) % 2 = 1)
theorem lowbit (c y j : Nat) (h : j < 7) : (c % 128 + 128 * y) / 2 ^ j % 2 = c / 2 ^ j % 2 := by
  rcases (by omega : j = 0 ∨ j = 1 ∨ j = 2 ∨ j = 3 ∨ j = 4 ∨ j = 5 ∨ j = 6) with h | h | h | h | h | h | h <;> subst h <;> simp <;> omega
theorem highbit (c y j : Nat) (h : c < 128) : (c + 128 * y) / 2 ^ (j + 7) = y / 2 ^ j := by
  rw [show 2 ^ (j + 7) = 128 * 2 ^ j from pow7 j, ← Nat.div_div_eq_div_mul]
  congr 1
  omega
theorem val_bit : ∀ (l : List Nat) (j : Nat), val l / 2 ^ j % 2 = l.getD (j / 7) 0 / 2 ^ (j % 7) % 2 := by
  intro l
  induction l with
  | nil => intro j; simp [val]
  | cons c t ih =>
    intro j
    rw [val]
    by_cases h : j < 7
    · rw [lowbit c _ j h, Nat.div_eq_of_lt h, Nat.mod_eq_of_lt h]; rfl
    · have e : j = (j - 7) + 7 := by omega
      rw [e, highbit _ _ _ (by omega), ih (j - 7)]
      have e1 : (j - 7 + 7) / 7 = (j - 7) / 7 + 1 := by omega
      have e2 : (j - 7 + 7) % 7 = (j - 7) % 7 := by omega
      rw [e1, e2]; rfl
theorem bit_val (l : List Nat) (j : Nat) : bit l j = decide (val l / 2 ^ j % 2 = 1) := by
  unfold bit; rw [val_bit]
theorem val_lt : ∀ (l : List Nat), val l < 2 ^ (7 * l.length) := by
  intro l
  induction l with
  | nil => simp [val]
  | cons c t ih =>
    rw [val, List.length_cons]
    have := pow7' (7 * (t.length + 1)) (7 * t.length) (by omega)
    omega
theorem val_take_succ : ∀ (l : List Nat) (k : Nat), k < l.length → val (l.take (k + 1)) = val (l.take k) + (l.getD k 0) % 128 * 2 ^ (7 * k) := by
  intro l
  induction l with
  | nil => intro k h; simp at h
  | cons c t ih =>
    intro k h
    cases k with
    | zero => simp [val]
    | succ k =>
      have := ih k (by simpa using h)
      rw [List.take_succ_cons, List.take_succ_cons, val, val, this]
      have e := pow7' (7 * (k + 1)) (7 * k) (by omega)
      rw [e]
      simp only [List.getD_cons_succ]
      rw [Nat.mul_add, ← Nat.add_assoc]
      congr 1
      rw [Nat.mul_left_comm]
/-- what has been put together behind k bytes, in 64 bits -/
theorem join_step (l : List Nat) (k : Nat) (h : k < l.length) :
    (val (l.take k) % 2 ^ 64) ||| ((l.getD k 0 % 128 * 2 ^ (7 * k)) % 2 ^ 64) = val (l.take (k + 1)) % 2 ^ 64 := by
  rw [val_take_succ l k h]
  have hv := val_lt (l.take k)
  have hlen : (l.take k).length = k := by rw [List.length_take]; omega
  rw [hlen] at hv
  by_cases h64 : 7 * k < 64
  · have hk : 2 ^ 64 = 2 ^ (7 * k) * 2 ^ (64 - 7 * k) := by rw [← Nat.pow_add]; congr 1; omega
    have hp : 0 < 2 ^ (7 * k) := Nat.two_pow_pos _
    have hle : 2 ^ (7 * k) ≤ 2 ^ 64 := pow_le (by omega)
    rw [Nat.mod_eq_of_lt (by omega : val (l.take k) < 2 ^ 64)]
    generalize hx : l.getD k 0 % 128 = x
    have e1 : x * 2 ^ (7 * k) % 2 ^ 64 = 2 ^ (7 * k) * (x % 2 ^ (64 - 7 * k)) := by
      rw [hk, Nat.mul_comm x, Nat.mul_mod_mul_left]
    have e2 : (val (l.take k) + x * 2 ^ (7 * k)) % 2 ^ 64 = 2 ^ (7 * k) * (x % 2 ^ (64 - 7 * k)) + val (l.take k) := by
      have hlt : 2 ^ (7 * k) * (x % 2 ^ (64 - 7 * k)) + val (l.take k) < 2 ^ 64 := by
        have hm : x % 2 ^ (64 - 7 * k) + 1 ≤ 2 ^ (64 - 7 * k) := Nat.mod_lt _ (Nat.two_pow_pos _)
        have := Nat.mul_le_mul_left (2 ^ (7 * k)) hm
        rw [← hk, Nat.mul_add, Nat.mul_one] at this
        omega
      rw [Nat.add_comm, ← Nat.mod_add_div (x * 2 ^ (7 * k)) (2 ^ 64), e1, Nat.add_right_comm, Nat.add_mul_mod_self_left, Nat.mod_eq_of_lt hlt]
    rw [e1, e2, Nat.or_comm, Nat.two_pow_add_eq_or_of_lt hv]
  · have hk : 2 ^ (7 * k) = 2 ^ 64 * 2 ^ (7 * k - 64) := by rw [← Nat.pow_add]; congr 1; omega
    have e : l.getD k 0 % 128 * 2 ^ (7 * k) = 2 ^ 64 * (l.getD k 0 % 128 * 2 ^ (7 * k - 64)) := by rw [hk, Nat.mul_left_comm]
    rw [e, Nat.mul_mod_right, Nat.add_mul_mod_self_left]
    simp

/-! with a sign -/
def topset (l : List Nat) : Bool := decide (64 ≤ l.getLastD 0 % 128)
theorem val_svl : ∀ (l : List Nat), l ≠ [] → (val l : Int) = svl l + (if topset l then 2 ^ (7 * l.length) else 0) := by
  intro l
  induction l with
  | nil => intro h; exact absurd rfl h
  | cons c t ih =>
    intro _
    cases t with
    | nil =>
      by_cases hc : 64 ≤ c % 128
      · simp [val, svl, topset, hc]; omega
      · simp [val, svl, topset, hc]
    | cons d t =>
      have h1 := ih (by simp)
      rw [val, svl_cons _ _ (by simp)]
      have e : topset (c :: d :: t) = topset (d :: t) := by simp [topset]
      rw [e]
      have e2 : (2 : Int) ^ (7 * (c :: d :: t).length) = 128 * 2 ^ (7 * (d :: t).length) := by
        rw [ipow_cast, ipow_cast, pow7' _ (7 * (d :: t).length) (by simp only [List.length_cons]; omega)]; omega
      rw [e2]
      split
      · rename_i ht; rw [if_pos ht] at h1; omega
      · rename_i ht; rw [if_neg ht] at h1; omega
theorem svl_range : ∀ (l : List Nat), l ≠ [] → -(2 ^ (7 * l.length - 1) : Int) ≤ svl l ∧ svl l < 2 ^ (7 * l.length - 1) := by
  intro l
  induction l with
  | nil => intro h; exact absurd rfl h
  | cons c t ih =>
    intro _
    cases t with
    | nil =>
      have e : (2 : Int) ^ (7 * [c].length - 1) = 64 := rfl
      rw [svl_one, e]; split <;> (constructor <;> omega)
    | cons d t =>
      have h1 := ih (by simp)
      rw [svl_cons _ _ (by simp)]
      have e2 : (2 : Int) ^ (7 * (c :: d :: t).length - 1) = 128 * 2 ^ (7 * (d :: t).length - 1) := by
        rw [ipow_cast, ipow_cast, pow7' _ (7 * (d :: t).length - 1) (by simp only [List.length_cons]; omega)]; omega
      rw [e2]
      omega
def jn (l : List Nat) : Nat := val l % 2 ^ 64
theorem jn_lt (l : List Nat) : jn l < 2 ^ 64 := Nat.mod_lt _ (by omega)
theorem ext_le (last : Nat) (ok : Nat → Bool) (hok : ∀ c, ok c = true → c < 128) : ∀ (t : List Nat) (i : Nat), i ≤ last → (ext last ok t i).2 = 0 → (ext last ok t i).1 ≤ last + 1 := by
  intro t
  induction t with
  | nil => intro i _ h; simp [ext] at h
  | cons c t ih =>
    intro i hi h
    by_cases h1 : i = last ∧ ok c = false
    · rw [ext, if_pos h1] at h; simp at h
    · rw [ext, if_neg h1] at h ⊢
      by_cases h2 : c < 128
      · rw [if_pos h2]; simp; omega
      · rw [if_neg h2] at h ⊢
        refine ih (i + 1) ?_ h
        by_cases hl : i = last
        · refine absurd ?_ h1
          refine ⟨hl, ?_⟩
          cases ho : ok c with
          | false => rfl
          | true => exact absurd (hok c ho) h2
        · omega
theorem zok_lt (o c : Nat) (h : o ≤ 7) (hz : zok o c = true) : c < 128 := by
  have := pow_le h; simp [zok] at hz; omega
theorem sok_lt (o c : Nat) (hz : sok o c = true) : c < 128 := by simp [sok] at hz; exact hz.1
theorem uns_lt (l : List Nat) (n : Int) : (uns l n).1 < 2 ^ 64 := by
  unfold uns
  split
  · simp
  · rename_i hb
    split
    · split
      · rename_i hv
        have := pow_le (a := n.toNat) (b := 64) (by unfold bad at hb; omega)
        show val _ < _
        omega
      · simp
    · simp
theorem uns_size (l : List Nat) (n : Int) : (uns l n).2.1 ≤ l.length := by
  unfold uns
  split
  · simp
  · split
    · rename_i h
      have := rdE_size _ _ _ h
      split
      · show (rdE _ _ _).1 ≤ _; omega
      · simp
    · simp
theorem sgn_size (l : List Nat) (n : Int) : (sgn l n).2.1 ≤ l.length := by
  unfold sgn
  split
  · simp
  · split
    · rename_i h
      have := rdE_size _ _ _ h
      split
      · show (rdE _ _ _).1 ≤ _; omega
      · simp
    · simp
theorem sgn_lt (l : List Nat) (n : Int) : -9223372036854775808 ≤ (sgn l n).1 ∧ (sgn l n).1 < 9223372036854775808 := by
  unfold sgn
  split
  · simp
  · rename_i hb
    split
    · split
      · rename_i hv
        unfold fit at hv
        rw [ipow_cast] at hv
        have := pow_le (a := n.toNat - 1) (b := 63) (by unfold bad at hb; omega)
        show -9223372036854775808 ≤ svl _ ∧ svl _ < _
        omega
      · simp
    · simp

/-! the fewest bytes -/
def szU (n : Nat) : Nat := if h : n < 128 then 0 else szU (n / 128) + 1
termination_by n
def szS (n : Int) : Nat := if h : -64 ≤ n ∧ n < 64 then 0 else szS (n / 128) + 1
termination_by n.natAbs
decreasing_by omega
def enc : Nat → Int → List Nat
  | 0, n => [(n % 128).toNat]
  | k + 1, n => ((n % 128).toNat + 128) :: enc k (n / 128)
theorem szU_lo (n : Nat) (h : n < 128) : szU n = 0 := by rw [szU]; simp [h]
theorem szU_hi (n : Nat) (h : ¬ n < 128) : szU n = szU (n / 128) + 1 := by rw [szU]; simp [h]
theorem szS_lo (n : Int) (h : -64 ≤ n ∧ n < 64) : szS n = 0 := by rw [szS]; simp [h]
theorem szS_hi (n : Int) (h : ¬ (-64 ≤ n ∧ n < 64)) : szS n = szS (n / 128) + 1 := by rw [szS]; simp [h]
theorem szU_le : ∀ (k n : Nat), n < 128 * 2 ^ (7 * k) → szU n ≤ k := by
  intro k
  induction k with
  | zero => intro n h; rw [szU_lo n (by simpa using h)]; omega
  | succ k ih =>
    intro n h
    by_cases hn : n < 128
    · rw [szU_lo n hn]; omega
    · rw [szU_hi n hn]
      have e := pow7' (7 * (k + 1)) (7 * k) (by omega)
      have := ih (n / 128) (by omega)
      omega
theorem szS_le : ∀ (k : Nat) (n : Int), -(64 * 2 ^ (7 * k) : Nat) ≤ n → n < (64 * 2 ^ (7 * k) : Nat) → szS n ≤ k := by
  intro k
  induction k with
  | zero => intro n h1 h2; rw [szS_lo n (by simp at h1 h2; omega)]; omega
  | succ k ih =>
    intro n h1 h2
    by_cases hn : -64 ≤ n ∧ n < 64
    · rw [szS_lo n hn]; omega
    · rw [szS_hi n hn]
      have e := pow7' (7 * (k + 1)) (7 * k) (by omega)
      have := ih (n / 128) (by omega) (by omega)
      omega
theorem enc_len : ∀ (k : Nat) (n : Int), (enc k n).length = k + 1 := by
  intro k
  induction k with
  | zero => intro n; rfl
  | succ k ih => intro n; rw [enc, List.length_cons, ih]
theorem enc_lt : ∀ (k : Nat) (n : Int), ∀ x ∈ enc k n, x < 256 := by
  intro k
  induction k with
  | zero => intro n x hx; simp [enc] at hx; omega
  | succ k ih =>
    intro n x hx
    rw [enc, List.mem_cons] at hx
    rcases hx with rfl | hx
    · omega
    · exact ih _ x hx
theorem enc_ne (k : Nat) (n : Int) : enc k n ≠ [] := by
  intro h
  have := congrArg List.length h
  rw [enc_len] at this
  simp at this
theorem val_enc : ∀ (k n : Nat), n < 128 * 2 ^ (7 * k) → val (enc k n) = n := by
  intro k
  induction k with
  | zero => intro n h; simp [enc, val] at h ⊢; omega
  | succ k ih =>
    intro n h
    have e := pow7' (7 * (k + 1)) (7 * k) (by omega)
    have h1 := ih (n / 128) (by omega)
    rw [enc, val, show ((n : Int) / 128) = ((n / 128 : Nat) : Int) by omega, h1]
    omega
theorem svl_enc : ∀ (k : Nat) (n : Int), -(64 * 2 ^ (7 * k) : Nat) ≤ n → n < (64 * 2 ^ (7 * k) : Nat) → svl (enc k n) = n := by
  intro k
  induction k with
  | zero => intro n h1 h2; simp at h1 h2; simp only [enc, svl_one]; split <;> omega
  | succ k ih =>
    intro n h1 h2
    have e := pow7' (7 * (k + 1)) (7 * k) (by omega)
    rw [enc, svl_cons _ _ (enc_ne _ _), ih (n / 128) (by omega) (by omega)]
    omega
theorem rdE_enc (m : Nat) : ∀ (k : Nat) (n : Int) (i : Nat), rdE m (enc k n) i = if m ≤ 7 * (i + k) ∧ 0 < k then (0, 4) else (i + k + 1, 0) := by
  intro k
  induction k with
  | zero => intro n i; rw [enc, rdE, if_neg (by omega), if_pos (by omega), if_neg (by omega)]
  | succ k ih =>
    intro n i
    rw [enc, rdE]
    by_cases h : m ≤ 7 * (i + 1)
    · rw [if_pos ⟨h, by omega⟩, if_pos (by omega)]
    · rw [if_neg (by omega), if_neg (by omega), ih]
      by_cases h2 : m ≤ 7 * (i + 1 + k) ∧ 0 < k
      · rw [if_pos h2, if_pos (by omega)]
      · rw [if_neg h2, if_neg (by omega)]
        congr 1; omega
theorem szU_lt : ∀ (k n : Nat), n < 128 * 2 ^ (7 * k) → n < 128 * 2 ^ (7 * szU n) := by
  intro k
  induction k with
  | zero => intro n h; rw [szU_lo n (by simpa using h)]; simpa using h
  | succ k ih =>
    intro n h
    by_cases hn : n < 128
    · rw [szU_lo n hn]; simpa using hn
    · rw [szU_hi n hn]
      have e := pow7' (7 * (k + 1)) (7 * k) (by omega)
      have e2 := pow7' (7 * (szU (n / 128) + 1)) (7 * szU (n / 128)) (by omega)
      have := ih (n / 128) (by omega)
      omega
theorem szU_ge : ∀ (k n : Nat), n < 128 * 2 ^ (7 * k) → 0 < szU n → 2 ^ (7 * szU n) ≤ n := by
  intro k
  induction k with
  | zero => intro n h h0; rw [szU_lo n (by simpa using h)] at h0; omega
  | succ k ih =>
    intro n h h0
    by_cases hn : n < 128
    · rw [szU_lo n hn] at h0; omega
    · rw [szU_hi n hn]
      have e := pow7' (7 * (k + 1)) (7 * k) (by omega)
      have e2 := pow7' (7 * (szU (n / 128) + 1)) (7 * szU (n / 128)) (by omega)
      by_cases hz : 0 < szU (n / 128)
      · have := ih (n / 128) (by omega) hz
        omega
      · have : szU (n / 128) = 0 := by omega
        rw [this] at e2 ⊢
        simp at e2 ⊢
        omega
theorem szS_in : ∀ (k : Nat) (n : Int), -(64 * 2 ^ (7 * k) : Nat) ≤ n → n < (64 * 2 ^ (7 * k) : Nat) → -(64 * 2 ^ (7 * szS n) : Nat) ≤ n ∧ n < (64 * 2 ^ (7 * szS n) : Nat) := by
  intro k
  induction k with
  | zero => intro n h1 h2; rw [szS_lo n (by simp at h1 h2; omega)]; exact ⟨h1, h2⟩
  | succ k ih =>
    intro n h1 h2
    by_cases hn : -64 ≤ n ∧ n < 64
    · rw [szS_lo n hn]; simp; omega
    · rw [szS_hi n hn]
      have e := pow7' (7 * (k + 1)) (7 * k) (by omega)
      have e2 := pow7' (7 * (szS (n / 128) + 1)) (7 * szS (n / 128)) (by omega)
      have := ih (n / 128) (by omega) (by omega)
      omega
theorem szS_out : ∀ (k : Nat) (n : Int), -(64 * 2 ^ (7 * k) : Nat) ≤ n → n < (64 * 2 ^ (7 * k) : Nat) → 0 < szS n → ¬ fit (7 * szS n) n := by
  intro k
  induction k with
  | zero => intro n h1 h2 h0; rw [szS_lo n (by simp at h1 h2; omega)] at h0; omega
  | succ k ih =>
    intro n h1 h2 h0
    by_cases hn : -64 ≤ n ∧ n < 64
    · rw [szS_lo n hn] at h0; omega
    · rw [szS_hi n hn]
      have e := pow7' (7 * (k + 1)) (7 * k) (by omega)
      by_cases hz : 0 < szS (n / 128)
      · have e2 := pow7' (7 * (szS (n / 128) + 1) - 1) (7 * szS (n / 128) - 1) (by omega)
        have := ih (n / 128) (by omega) (by omega) hz
        unfold fit at this ⊢
        rw [ipow_cast] at this ⊢
        omega
      · have : szS (n / 128) = 0 := by omega
        rw [this]
        unfold fit
        simp
        omega
theorem pow_70 : 128 * 2 ^ (7 * 9) = 2 ^ 70 := by decide
theorem uns_enc (n : Nat) (k : Int) (h : n < 2 ^ 64) (h1 : 1 ≤ k) (h2 : k ≤ 64) : uns (enc (szU n) n) k = if n < 2 ^ k.toNat then (n, szU n + 1, 0) else (0, 0, 4) := by
  have hb : n < 128 * 2 ^ (7 * 9) := by omega
  have hlt := szU_lt 9 n hb
  unfold uns
  rw [if_neg (by unfold bad; omega), rdE_enc]
  by_cases hc : k.toNat ≤ 7 * (0 + szU n) ∧ 0 < szU n
  · rw [if_pos hc, if_neg (by simp)]
    have := szU_ge 9 n hb hc.2
    have := pow_le (a := k.toNat) (b := 7 * szU n) (by omega)
    rw [if_neg (by omega)]
  · rw [if_neg hc]
    have e : (enc (szU n) n).take (szU n + 1) = enc (szU n) n := List.take_of_length_le (by rw [enc_len]; omega)
    simp only [Nat.zero_add, e, val_enc _ _ hlt, if_true]
theorem sgn_enc (n : Int) (k : Int) (h : -9223372036854775808 ≤ n) (h' : n < 9223372036854775808) (h1 : 1 ≤ k) (h2 : k ≤ 64) : sgn (enc (szS n) n) k = if fit k.toNat n then (n, szS n + 1, 0) else (0, 0, 4) := by
  have hb1 : -(64 * 2 ^ (7 * 9) : Nat) ≤ n := by omega
  have hb2 : n < (64 * 2 ^ (7 * 9) : Nat) := by omega
  have hlt := szS_in 9 n hb1 hb2
  unfold sgn
  rw [if_neg (by unfold bad; omega), rdE_enc]
  by_cases hc : k.toNat ≤ 7 * (0 + szS n) ∧ 0 < szS n
  · rw [if_pos hc, if_neg (by simp)]
    have := szS_out 9 n hb1 hb2 hc.2
    have := pow_le (a := k.toNat - 1) (b := 7 * szS n - 1) (by omega)
    rw [if_neg]
    unfold fit at *
    rw [ipow_cast] at *
    omega
  · rw [if_neg hc]
    have e : (enc (szS n) n).take (szS n + 1) = enc (szS n) n := List.take_of_length_le (by rw [enc_len]; omega)
    simp only [Nat.zero_add, e, svl_enc _ _ hlt.1 hlt.2, if_true]
def hi (s : Nat) : Nat := if 7 * s < 64 then 2 ^ 64 - 2 ^ (7 * s) else 0
theorem hi_lt (s : Nat) : hi s < 2 ^ 64 := by
  unfold hi
  split
  · have := Nat.two_pow_pos (7 * s); omega
  · omega
theorem hi_shift (s : Nat) (h : s ≤ 10) : (18446744073709551615 * 2 ^ min (7 * s) 64) % 2 ^ 64 = hi s := by
  rcases (by omega : s = 0 ∨ s = 1 ∨ s = 2 ∨ s = 3 ∨ s = 4 ∨ s = 5 ∨ s = 6 ∨ s = 7 ∨ s = 8 ∨ s = 9 ∨ s = 10) with h | h | h | h | h | h | h | h | h | h | h <;> subst h <;> rfl
theorem or_hi (x s : Nat) (hx : x < 2 ^ (7 * s)) (h : 7 * s < 64) : x ||| hi s = x + (2 ^ 64 - 2 ^ (7 * s)) := by
  unfold hi
  rw [if_pos h]
  have hk : 2 ^ 64 = 2 ^ (7 * s) * 2 ^ (64 - 7 * s) := by rw [← Nat.pow_add]; congr 1; omega
  have e : 2 ^ 64 - 2 ^ (7 * s) = 2 ^ (7 * s) * (2 ^ (64 - 7 * s) - 1) := by rw [Nat.mul_sub, ← hk, Nat.mul_one]
  rw [e, Nat.or_comm, ← Nat.two_pow_add_eq_or_of_lt hx, Nat.add_comm]
/-- what is put together and given the sign is the number with a sign -/
theorem sgn_top (l : List Nat) (hne : l ≠ []) (h10 : l.length ≤ 10) (ht : topset l = true) : ∃ q : Int, ((jn l ||| hi l.length : Nat) : Int) = svl l + 18446744073709551616 * q := by
  have hv := val_svl l hne
  have hlt := val_lt l
  rw [ht, if_pos rfl] at hv
  unfold jn
  by_cases h : 7 * l.length < 64
  · have hle := pow_le (a := 7 * l.length) (b := 64) (by omega)
    rw [Nat.mod_eq_of_lt (by omega), or_hi _ _ hlt h]
    refine ⟨1, ?_⟩
    rw [ipow_cast] at hv
    omega
  · have e10 : l.length = 10 := by omega
    have : hi l.length = 0 := by unfold hi; rw [if_neg h]
    rw [this, Nat.or_zero]
    rw [e10] at hv
    refine ⟨64 - (val l / 2 ^ 64 : Nat), ?_⟩
    have e : (2 : Int) ^ (7 * 10) = 18446744073709551616 * 64 := rfl
    rw [e] at hv
    omega
theorem sgn_notop (l : List Nat) (hne : l ≠ []) (ht : topset l = false) : ∃ q : Int, ((jn l : Nat) : Int) = svl l + 18446744073709551616 * q := by
  have hv := val_svl l hne
  rw [ht] at hv
  unfold jn
  refine ⟨-(val l / 2 ^ 64 : Nat), ?_⟩
  simp only [Bool.false_eq_true, if_false] at hv
  omega
theorem topset_take (l : List Nat) (s : Nat) (h1 : 1 ≤ s) (h : s ≤ l.length) : topset (l.take s) = decide (64 ≤ l.getD (s - 1) 0 % 128) := by
  unfold topset
  have : (l.take s).getLastD 0 = l.getD (s - 1) 0 := by
    rw [List.getLastD_eq_getLast?, List.getLast?_eq_getElem?, List.length_take, List.getD_eq_getElem?_getD, List.getElem?_take_of_lt (by omega)]
    congr 2
    omega
  rw [this]
end Go.Proofs.YtggfaalodojjkaaGreatDoor.Leb
