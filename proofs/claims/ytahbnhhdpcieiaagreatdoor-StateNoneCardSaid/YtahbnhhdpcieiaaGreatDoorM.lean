/-
  Numbers as bytes in a row, the lowest one first: what is put is got, and all else stays. Plain.
-/
import Derived.Below
namespace Go.Proofs.YtahbnhhdpcieiaaGreatDoor
set_option linter.unusedVariables false
def putM (mem : List Nat) (p : Nat) (l : List Nat) : List Nat := mem.take p ++ (l ++ mem.drop (p + l.length))
theorem putM_len {mem l : List Nat} {p : Nat} (h : p + l.length ≤ mem.length) : (putM mem p l).length = mem.length := by
  unfold putM
  simp
  omega
theorem putM_all {mem l : List Nat} {p : Nat} (h : ∀ x ∈ mem, x < 256) (hl : ∀ x ∈ l, x < 256) : ∀ x ∈ putM mem p l, x < 256 := by
  intro x hx
  unfold putM at hx
  rw [List.mem_append, List.mem_append] at hx
  rcases hx with q | q | q
  · exact h x (List.mem_of_mem_take q)
  · exact hl x q
  · exact h x (List.mem_of_mem_drop q)
theorem getD_eq (l : List Nat) (i : Nat) : l.getD i 0 = l[i]?.getD 0 := List.getD_eq_getElem?_getD ..
theorem putM_low {mem l : List Nat} {p i : Nat} (hi : i < p) (hp : p ≤ mem.length) : (putM mem p l)[i]? = mem[i]? := by
  unfold putM
  rw [List.getElem?_append_left (by simp; omega), List.getElem?_take_of_lt hi]
theorem putM_mid {mem l : List Nat} {p i : Nat} (hi : i < l.length) (hp : p ≤ mem.length) : (putM mem p l)[p + i]? = l[i]? := by
  unfold putM
  rw [List.getElem?_append_right (by rw [List.length_take]; omega)]
  simp only [List.length_take]
  rw [show p + i - min p mem.length = i from by omega, List.getElem?_append_left hi]
theorem putM_high {mem l : List Nat} {p i : Nat} (hi : p + l.length ≤ i) (hp : p + l.length ≤ mem.length) : (putM mem p l)[i]? = mem[i]? := by
  unfold putM
  rw [List.getElem?_append_right (by rw [List.length_take]; omega), List.getElem?_append_right (by rw [List.length_take]; omega), List.getElem?_drop]
  congr 1
  rw [List.length_take]
  omega
theorem putM_snoc {mem l : List Nat} {p x : Nat} (h : p + l.length < mem.length) : (putM mem p l).set (p + l.length) x = putM mem p (l ++ [x]) := by
  apply List.ext_getElem?
  intro i
  rw [List.getElem?_set]
  have hlen : (putM mem p l).length = mem.length := putM_len (by omega)
  by_cases e : p + l.length = i
  · subst e
    rw [if_pos rfl, if_pos (by omega), putM_mid (by simp) (by omega)]
    simp
  · rw [if_neg e]
    rcases Nat.lt_or_ge i p with h1 | h1
    · rw [putM_low h1 (by omega), putM_low h1 (by omega)]
    · rcases Nat.lt_or_ge i (p + l.length) with h2 | h2
      · obtain ⟨k, rfl⟩ : ∃ k, i = p + k := ⟨i - p, by omega⟩
        rw [putM_mid (by omega) (by omega), putM_mid (by simp; omega) (by omega), List.getElem?_append_left (by omega)]
      · rw [putM_high h2 (by omega), putM_high (by simp; omega) (by simp; omega)]
theorem putM_nil (mem : List Nat) (p : Nat) : putM mem p [] = mem := by simp [putM]
/-- the n low bytes of v, the lowest one first -/
def leN (v : Nat) : Nat → List Nat
  | 0 => []
  | n + 1 => leN v n ++ [v / 256 ^ n % 256]
theorem leN_len (v : Nat) : ∀ n, (leN v n).length = n
  | 0 => rfl
  | n + 1 => by simp [leN, leN_len v n]
theorem leN_lt (v : Nat) : ∀ n, ∀ x ∈ leN v n, x < 256
  | 0 => by simp [leN]
  | n + 1 => by
    intro x hx
    simp only [leN, List.mem_append, List.mem_singleton] at hx
    rcases hx with h | h
    · exact leN_lt v n x h
    · omega
theorem leN_get (v : Nat) : ∀ n i, i < n → (leN v n)[i]? = some (v / 256 ^ i % 256)
  | 0, i, h => by omega
  | n + 1, i, h => by
    unfold leN
    by_cases e : i = n
    · subst e
      rw [List.getElem?_append_right (by rw [leN_len]; omega), leN_len]
      simp
    · rw [List.getElem?_append_left (by rw [leN_len]; omega), leN_get v n i (by omega)]
/-- the number of n bytes told by f -/
def unle (f : Nat → Nat) : Nat → Nat
  | 0 => 0
  | n + 1 => unle f n + f n * 256 ^ n
theorem unle_congr (f g : Nat → Nat) : ∀ n, (∀ i, i < n → f i = g i) → unle f n = unle g n
  | 0, _ => rfl
  | n + 1, h => by
    unfold unle
    rw [unle_congr f g n (fun i hi => h i (by omega)), h n (by omega)]
theorem unle_lt (f : Nat → Nat) : ∀ n, (∀ i, i < n → f i < 256) → unle f n < 256 ^ n
  | 0, _ => by simp [unle]
  | n + 1, h => by
    have h1 := unle_lt f n (fun i hi => h i (by omega))
    have h2 := h n (by omega)
    unfold unle
    have h3 : f n * 256 ^ n ≤ 255 * 256 ^ n := Nat.mul_le_mul_right _ (by omega)
    have h4 : 256 ^ (n + 1) = 256 * 256 ^ n := by rw [Nat.pow_succ, Nat.mul_comm]
    omega
theorem unle_of (v : Nat) : ∀ n, unle (fun i => v / 256 ^ i % 256) n = v % 256 ^ n
  | 0 => by simp [unle, Nat.mod_one]
  | n + 1 => by
    unfold unle
    rw [unle_of v n, Nat.pow_succ, Nat.mod_mul, Nat.mul_comm (256 ^ n)]
/-- the number of n bytes at p -/
def wdN (mem : List Nat) (p n : Nat) : Nat := unle (fun i => mem.getD (p + i) 0) n
theorem wdN_lt {mem : List Nat} (h : ∀ x ∈ mem, x < 256) (p n : Nat) : wdN mem p n < 256 ^ n := by
  refine unle_lt _ n fun i _ => ?_
  rw [getD_eq]
  rcases Nat.lt_or_ge (p + i) mem.length with h1 | h1
  · rw [List.getElem?_eq_getElem h1]; exact h _ (List.getElem_mem h1)
  · rw [List.getElem?_eq_none h1]; decide
theorem wdN_put {mem : List Nat} {p n : Nat} (v : Nat) (h : p + n ≤ mem.length) : wdN (putM mem p (leN v n)) p n = v % 256 ^ n := by
  rw [← unle_of v n]
  refine unle_congr _ _ n fun i hi => ?_
  show (putM mem p (leN v n)).getD (p + i) 0 = _
  rw [getD_eq, putM_mid (by rw [leN_len]; exact hi) (by omega), leN_get v n i hi]
  rfl
theorem wdN_far {mem l : List Nat} {p q k : Nat} (h : p + l.length ≤ mem.length) (hq : q + k ≤ p ∨ p + l.length ≤ q) : wdN (putM mem p l) q k = wdN mem q k := by
  refine unle_congr _ _ k fun i hi => ?_
  show (putM mem p l).getD (q + i) 0 = mem.getD (q + i) 0
  rw [getD_eq, getD_eq]
  rcases hq with h1 | h1
  · rw [putM_low (by omega) (by omega)]
  · rw [putM_high (by omega) h]
/-- what was copied is read -/
theorem wdN_copy {mem : List Nat} {p q n i k : Nat} (hp : p + n ≤ mem.length) (hq : q + n ≤ mem.length) (hi : i + k ≤ n) : wdN (putM mem q ((mem.drop p).take n)) (q + i) k = wdN mem (p + i) k := by
  refine unle_congr _ _ k fun j hj => ?_
  show (putM mem q ((mem.drop p).take n)).getD (q + i + j) 0 = mem.getD (p + i + j) 0
  rw [getD_eq, getD_eq, Nat.add_assoc, putM_mid (by simp; omega) (by omega), List.getElem?_take_of_lt (by omega), List.getElem?_drop, Nat.add_assoc]
theorem wdN_copy_low {mem : List Nat} {p q n a k : Nat} (hp : p + n ≤ mem.length) (hq : q + n ≤ mem.length) (ha : a + k ≤ q) : wdN (putM mem q ((mem.drop p).take n)) a k = wdN mem a k :=
  wdN_far (by simp; omega) (.inl ha)
/-- k numbers of W bytes, one behind the other, from p on -/
def psh (W : Nat) (mem : List Nat) (p : Nat) (f : Nat → Nat) : Nat → List Nat
  | 0 => mem
  | k + 1 => putM (psh W mem p f k) (p + W * k) (leN (f k) W)
theorem psh_len {W p : Nat} {mem : List Nat} {f : Nat → Nat} : ∀ k, p + W * k ≤ mem.length → (psh W mem p f k).length = mem.length
  | 0, _ => rfl
  | k + 1, h => by
    rw [Nat.mul_succ] at h
    have := psh_len (W := W) (f := f) k (show p + W * k ≤ mem.length by omega)
    unfold psh
    rw [putM_len (by rw [leN_len, this]; omega), this]
theorem psh_all {W p : Nat} {mem : List Nat} {f : Nat → Nat} (h : ∀ x ∈ mem, x < 256) : ∀ k, ∀ x ∈ psh W mem p f k, x < 256
  | 0 => h
  | k + 1 => putM_all (psh_all h k) (leN_lt _ _)
theorem psh_far {W p q n : Nat} {mem : List Nat} {f : Nat → Nat} : ∀ k, p + W * k ≤ mem.length → (q + n ≤ p ∨ p + W * k ≤ q) → wdN (psh W mem p f k) q n = wdN mem q n
  | 0, _, _ => rfl
  | k + 1, h, hq => by
    rw [Nat.mul_succ] at h hq
    have := psh_len (W := W) (f := f) k (show p + W * k ≤ mem.length by omega)
    unfold psh
    rw [wdN_far (by rw [leN_len, this]; omega) (by rw [leN_len]; omega), psh_far k (by omega) (by omega)]
theorem psh_in {W p j : Nat} {mem : List Nat} {f : Nat → Nat} : ∀ k, p + W * k ≤ mem.length → j < k → wdN (psh W mem p f k) (p + W * j) W = f j % 256 ^ W
  | 0, _, h => by omega
  | k + 1, h, hj => by
    rw [Nat.mul_succ] at h
    have hl := psh_len (W := W) (f := f) k (show p + W * k ≤ mem.length by omega)
    unfold psh
    by_cases e : j = k
    · subst e
      exact wdN_put _ (by rw [hl]; omega)
    · have h1 : W * j + W ≤ W * k := by
        have := Nat.mul_le_mul_left W (show j + 1 ≤ k by omega)
        rw [Nat.mul_succ] at this
        exact this
      rw [wdN_far (by rw [leN_len, hl]; omega) (.inl (by omega)), psh_in k (by omega) (by omega)]
theorem psh_congr {W p : Nat} {mem : List Nat} {f g : Nat → Nat} : ∀ k, (∀ j, j < k → f j = g j) → psh W mem p f k = psh W mem p g k
  | 0, _ => rfl
  | k + 1, h => by
    unfold psh
    rw [psh_congr k (fun j hj => h j (by omega)), h k (by omega)]
theorem zero_wd {mem : List Nat} {p n : Nat} (h : ∀ i, i < n → mem.getD (p + i) 0 = 0) : wdN mem p n = 0 := by
  have : ∀ n, unle (fun _ => 0) n = 0 := fun n => by
    induction n with
    | zero => rfl
    | succ n ih => simp [unle, ih]
  unfold wdN
  rw [unle_congr _ (fun _ => 0) n h, this]
end Go.Proofs.YtahbnhhdpcieiaaGreatDoor
