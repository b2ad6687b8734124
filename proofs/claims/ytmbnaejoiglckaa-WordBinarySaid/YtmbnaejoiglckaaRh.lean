/-
  Rows of bits as numbers: what the document's own operations on rows give, as numbers (for WordBinary).
-/
import Derived.Test.YtmbnaejoiglckaaRg
namespace Go.Proofs.Ytmbnaejoiglckaa
open Go.RowKit
set_option linter.unusedVariables false
/-! rows of bits as numbers -/
theorem vl_split (g : Nat → Bool) : ∀ (k m s : Nat), vl g s (k + m) = vl g s k + 2 ^ k * vl g (s + k) m
  | 0, m, s => by simp [vl]
  | k + 1, m, s => by
    rw [show k + 1 + m = (k + m) + 1 from by omega]
    show (g s).toNat + 2 * vl g (s + 1) (k + m) = (g s).toNat + 2 * vl g (s + 1) k + 2 ^ (k + 1) * vl g (s + (k + 1)) m
    rw [vl_split g k m (s + 1), Nat.pow_succ, show s + 1 + k = s + (k + 1) from by omega, Nat.mul_add, ← Nat.mul_assoc, Nat.mul_comm 2 (2 ^ k)]
    omega
theorem vl_congr (g h : Nat → Bool) : ∀ (m s : Nat), (∀ i, s ≤ i → i < s + m → g i = h i) → vl g s m = vl h s m
  | 0, _, _ => rfl
  | m + 1, s, e => by
    unfold vl
    rw [e s (Nat.le_refl _) (by omega), vl_congr g h m (s + 1) (fun i a b => e i (by omega) (by omega))]
theorem vl_true (g : Nat → Bool) : ∀ (m s : Nat), (∀ i, s ≤ i → i < s + m → g i = true) → vl g s m + 1 = 2 ^ m
  | 0, _, _ => rfl
  | m + 1, s, e => by
    unfold vl
    rw [e s (Nat.le_refl _) (by omega)]
    have := vl_true g m (s + 1) (fun i a b => e i (by omega) (by omega))
    rw [Nat.pow_succ]
    simp
    omega
theorem vl_false (g : Nat → Bool) : ∀ (m s : Nat), (∀ i, s ≤ i → i < s + m → g i = false) → vl g s m = 0
  | 0, _, _ => rfl
  | m + 1, s, e => by
    unfold vl
    rw [e s (Nat.le_refl _) (by omega), vl_false g m (s + 1) (fun i a b => e i (by omega) (by omega))]
    rfl
theorem vl_move (f : Nat → Bool) (k : Nat) : ∀ (m s : Nat), vl (fun i => f (i + k)) s m = vl f (s + k) m
  | 0, _ => rfl
  | m + 1, s => by
    show (f (s + k)).toNat + 2 * vl (fun i => f (i + k)) (s + 1) m = (f (s + k)).toNat + 2 * vl f (s + k + 1) m
    rw [vl_move f k m (s + 1), show s + 1 + k = s + k + 1 from by omega]
theorem vl_not (f : Nat → Bool) : ∀ (m s : Nat), vl (fun i => !f i) s m + vl f s m + 1 = 2 ^ m
  | 0, _ => rfl
  | m + 1, s => by
    have := vl_not f m (s + 1)
    show (!f s).toNat + 2 * vl (fun i => !f i) (s + 1) m + ((f s).toNat + 2 * vl f (s + 1) m) + 1 = 2 ^ (m + 1)
    rw [Nat.pow_succ]
    cases f s <;> simp <;> omega
/-- bit i of the number of a row -/
theorem bt_vl (f : Nat → Bool) (n i : Nat) (h : i < n) : bt (vl f 0 n) i = f i := by
  obtain ⟨m, rfl⟩ : ∃ m, n = i + (m + 1) := ⟨n - i - 1, by omega⟩
  have h1 := vl_split f i (m + 1) 0
  have h2 := vl_lt f i 0
  have h3 : vl f (0 + i) (m + 1) = (f i).toNat + 2 * vl f (i + 1) m := by rw [Nat.zero_add]; rfl
  unfold bt
  rw [h1, h3, Nat.add_mul_div_left _ _ (Nat.two_pow_pos i), Nat.div_eq_of_lt h2]
  cases f i <;> simp [Nat.add_mod]
theorem vl_self {x n : Nat} (h : x < 2 ^ n) : vl (bt x) 0 n = x := by
  rw [vl_bt, Nat.pow_zero, Nat.div_one, Nat.mod_eq_of_lt h]
theorem bt_test (x i : Nat) : bt x i = x.testBit i := by
  unfold bt
  rw [Nat.testBit_eq_decide_div_mod_eq]
theorem Bo.num {w : World} {g n : Nat} {f : Nat → Bool} (h : Bo w g n f) : Bo w g n (bt (vl f 0 n)) :=
  ⟨h.1, fun i hi => by rw [bt_vl f n i hi]; exact h.2 i hi⟩
theorem Bo.is {w : World} {g n x : Nat} {f : Nat → Bool} (h : Bo w g n f) (e : vl f 0 n = x) : Bo w g n (bt x) := by
  rw [← e]; exact h.num
theorem LPost.is {B n x : Nat} {f : Nat → Bool} {w w' : World} {e : Ending} (h : LPost B n f w e w') (hx : vl f 0 n = x) : LPost B n (bt x) w e w' := by
  obtain ⟨g, cp, h1, h2, h3, h4, h5⟩ := h
  exact ⟨g, cp, h1, h2, h3, h4.is hx, h5⟩
theorem top_bit {x n : Nat} (h : x < 2 ^ (n + 1)) : bt x n = decide (2 ^ n ≤ x) := by
  have h0 := Nat.two_pow_pos n
  rw [Nat.pow_succ] at h
  unfold bt
  rcases Nat.lt_or_ge x (2 ^ n) with q | q
  · rw [Nat.div_eq_of_lt q]; simp; exact q
  · have : x / 2 ^ n = 1 := by
      apply Nat.div_eq_of_lt_le <;> omega
    rw [this]; simp; exact q
/-! added, taken away -/
theorem add_num {n x y : Nat} (c : Bool) (hx : x < 2 ^ n) (hy : y < 2 ^ n) : vl (sm (bt x) (bt y) c) 0 n = (x + y + c.toNat) % 2 ^ n := by
  have h := sm_val (bt x) (bt y) c n
  rw [vl_self hx, vl_self hy] at h
  rw [← h, Nat.add_mul_mod_self_left, Nat.mod_eq_of_lt (vl_lt _ _ _)]
theorem minus_num {n x y : Nat} (hx : x < 2 ^ n) (hy : y < 2 ^ n) : vl (sm (bt x) (fun i => !bt y i) true) 0 n = (x + 2 ^ n - y) % 2 ^ n := by
  have h := sm_val (bt x) (fun i => !bt y i) true n
  have h2 := vl_not (bt y) n 0
  rw [vl_self hy] at h2
  rw [vl_self hx] at h
  have h3 : vl (sm (bt x) (fun i => !bt y i) true) 0 n + 2 ^ n * (cy (bt x) (fun i => !bt y i) true n).toNat = x + 2 ^ n - y := by
    rw [h]; simp; omega
  rw [← h3, Nat.add_mul_mod_self_left, Nat.mod_eq_of_lt (vl_lt _ _ _)]
theorem neg_num {n x : Nat} (hx : x < 2 ^ n) : vl (sm (fun i => !bt x i) (fun _ => false) true) 0 n = (2 ^ n - x) % 2 ^ n := by
  have h := sm_val (fun i => !bt x i) (fun _ => false) true n
  have h2 := vl_not (bt x) n 0
  rw [vl_self hx] at h2
  rw [vl_false (fun _ => false) n 0 (fun _ _ _ => rfl)] at h
  have h3 : vl (sm (fun i => !bt x i) (fun _ => false) true) 0 n + 2 ^ n * (cy (fun i => !bt x i) (fun _ => false) true n).toNat = 2 ^ n - x := by
    rw [h]; simp; omega
  rw [← h3, Nat.add_mul_mod_self_left, Nat.mod_eq_of_lt (vl_lt _ _ _)]
/-! moved -/
def sh (n : Nat) (f : Nat → Bool) (k : Int) (fill : Bool) (i : Nat) : Bool := if 0 ≤ (i : Int) - k ∧ (i : Int) - k < n then f ((i : Int) - k).toNat else fill
theorem left_num {n x k : Nat} (hx : x < 2 ^ n) (hk : k ≤ n) : vl (sh n (bt x) k false) 0 n = x * 2 ^ k % 2 ^ n := by
  obtain ⟨m, rfl⟩ : ∃ m, n = k + m := ⟨n - k, by omega⟩
  rw [vl_split, vl_false _ k 0 (fun i _ h => by unfold sh; rw [if_neg (by omega)]), Nat.zero_add, Nat.zero_add]
  have h1 : vl (sh (k + m) (bt x) k false) k m = vl (bt x) 0 m := by
    have := vl_move (sh (k + m) (bt x) k false) k m 0
    rw [Nat.zero_add] at this
    rw [← this]
    apply vl_congr
    intro i _ h
    unfold sh
    rw [if_pos (by omega)]
    congr 1; omega
  rw [h1, vl_bt, Nat.pow_zero, Nat.div_one, Nat.pow_add, Nat.mul_comm x, Nat.mul_mod_mul_left]
theorem right_num {n x k : Nat} (fill : Bool) (hx : x < 2 ^ n) (hk : k ≤ n) : vl (sh n (bt x) (-(k : Int)) fill) 0 n = x / 2 ^ k + (if fill = true then 2 ^ n - 2 ^ (n - k) else 0) := by
  obtain ⟨m, rfl⟩ : ∃ m, n = m + k := ⟨n - k, by omega⟩
  rw [show m + k - k = m from by omega, vl_split]
  have h1 : vl (sh (m + k) (bt x) (-(k : Int)) fill) 0 m = vl (bt x) k m := by
    have := vl_move (bt x) k m 0
    rw [Nat.zero_add] at this
    rw [← this]
    apply vl_congr
    intro i _ h
    unfold sh
    rw [if_pos (by omega)]
    congr 1; omega
  have h2 : x / 2 ^ k < 2 ^ m := by rw [Nat.div_lt_iff_lt_mul (Nat.two_pow_pos _), ← Nat.pow_add]; exact hx
  rw [h1, vl_bt, Nat.mod_eq_of_lt h2, Nat.zero_add]
  cases fill
  · rw [vl_false _ k m (fun i h _ => by unfold sh; rw [if_neg (by omega)])]; simp
  · have := vl_true (sh (m + k) (bt x) (-(k : Int)) true) k m (fun i h _ => by unfold sh; rw [if_neg (by omega)])
    rw [if_pos rfl, show vl (sh (m + k) (bt x) (-(k : Int)) true) m k = 2 ^ k - 1 from by omega, Nat.mul_sub, Nat.mul_one, ← Nat.pow_add]
/-! bit by bit -/
theorem mix_num {n x y : Nat} (hx : x < 2 ^ n) (hy : y < 2 ^ n) :
    vl (fun i => bt x i && bt y i) 0 n = x &&& y ∧ vl (fun i => bt x i || bt y i) 0 n = x ||| y ∧ vl (fun i => bt x i != bt y i) 0 n = x ^^^ y := by
  refine ⟨?_, ?_, ?_⟩
  · rw [← vl_self (Nat.and_lt_two_pow x hy)]
    exact vl_congr _ _ _ _ (fun i _ _ => by simp only [bt_test, Nat.testBit_and])
  · rw [← vl_self (Nat.or_lt_two_pow hx hy)]
    exact vl_congr _ _ _ _ (fun i _ _ => by simp only [bt_test, Nat.testBit_or])
  · rw [← vl_self (Nat.xor_lt_two_pow hx hy)]
    exact vl_congr _ _ _ _ (fun i _ _ => by simp only [bt_test, Nat.testBit_xor])
/-! turned -/
def rl (n k : Nat) (f : Nat → Bool) (i : Nat) : Bool := if i < k then f (n - k + i) else f (i - k)
theorem rl_num {n x k : Nat} (hx : x < 2 ^ n) (hk : k ≤ n) : vl (rl n k (bt x)) 0 n = x % 2 ^ (n - k) * 2 ^ k + x / 2 ^ (n - k) := by
  obtain ⟨m, rfl⟩ : ∃ m, n = k + m := ⟨n - k, by omega⟩
  rw [show k + m - k = m from by omega, vl_split]
  have h1 : vl (rl (k + m) k (bt x)) 0 k = vl (bt x) m k := by
    have := vl_move (bt x) m k 0
    rw [Nat.zero_add] at this
    rw [← this]
    apply vl_congr
    intro i _ h
    unfold rl
    rw [if_pos (by omega)]
    congr 1; omega
  have h2 : vl (rl (k + m) k (bt x)) (0 + k) m = vl (bt x) 0 m := by
    have := vl_move (rl (k + m) k (bt x)) k m 0
    rw [← this]
    apply vl_congr
    intro i _ h
    unfold rl
    rw [if_neg (by omega)]
    congr 1; omega
  have h3 : x / 2 ^ m < 2 ^ k := by rw [Nat.div_lt_iff_lt_mul (Nat.two_pow_pos _), ← Nat.pow_add]; exact hx
  rw [h1, h2, vl_bt, vl_bt, Nat.mod_eq_of_lt h3, Nat.pow_zero, Nat.div_one, Nat.mul_comm (2 ^ k)]
  omega
/-! multiplied -/
theorem mul_step (N x y i : Nat) (h : bt y i = true) : (x * (y % 2 ^ i) % N + x * 2 ^ i % N + 0) % N = x * (y % 2 ^ (i + 1)) % N := by
  unfold bt at h
  have h := of_decide_eq_true h
  rw [Nat.add_zero, ← Nat.add_mod, ← Nat.mul_add, Nat.pow_succ, Nat.mod_mul, h, Nat.mul_one]
theorem mul_skip (N x y i : Nat) (h : bt y i = false) : x * (y % 2 ^ i) % N = x * (y % 2 ^ (i + 1)) % N := by
  unfold bt at h
  have h := of_decide_eq_false h
  have h : y / 2 ^ i % 2 = 0 := by omega
  rw [Nat.pow_succ, Nat.mod_mul, h, Nat.mul_zero, Nat.add_zero]
/-! divided -/
theorem div_bit (x i : Nat) : x / 2 ^ i = 2 * (x / 2 ^ (i + 1)) + (bt x i).toNat := by
  have : (bt x i).toNat = x / 2 ^ i % 2 := by
    unfold bt
    rcases Nat.mod_two_eq_zero_or_one (x / 2 ^ i) with e | e <;> simp [e]
  rw [this, Nat.pow_succ, ← Nat.div_div_eq_div_mul]
  omega
theorem div_no {y h c : Nat} (hy : 0 < y) (hr : 2 * (h % y) + c < y) : (2 * h + c) / y = 2 * (h / y) ∧ (2 * h + c) % y = 2 * (h % y) + c := by
  have e := Nat.div_add_mod h y
  have : 2 * h + c = y * (2 * (h / y)) + (2 * (h % y) + c) := by
    have := congrArg (2 * ·) e
    simp only [Nat.mul_add] at this
    rw [Nat.mul_left_comm] at this
    omega
  rw [this, Nat.mul_add_div hy, Nat.mul_add_mod, Nat.div_eq_of_lt hr, Nat.mod_eq_of_lt hr]
  exact ⟨rfl, rfl⟩
theorem div_yes {y h c : Nat} (hy : 0 < y) (hc : c ≤ 1) (hr : ¬ 2 * (h % y) + c < y) : (2 * h + c) / y = 2 * (h / y) + 1 ∧ (2 * h + c) % y = 2 * (h % y) + c - y := by
  have e := Nat.div_add_mod h y
  have hm := Nat.mod_lt h hy
  have hs : 2 * (h % y) + c - y < y := by omega
  have : 2 * h + c = y * (2 * (h / y) + 1) + (2 * (h % y) + c - y) := by
    have := congrArg (2 * ·) e
    simp only [Nat.mul_add] at this
    rw [Nat.mul_left_comm] at this
    rw [Nat.mul_add, Nat.mul_one]
    omega
  rw [this, Nat.mul_add_div hy, Nat.mul_add_mod, Nat.div_eq_of_lt hs, Nat.mod_eq_of_lt hs]
  exact ⟨rfl, rfl⟩

/-! the contracts, in numbers -/
theorem Add_v (g1 c1 g2 c2 n x y : Nat) (c : Bool) (w : World) (hn : 1 ≤ n) (hn2 : n ≤ 65) (hc1 : n ≤ c1) (hc2 : n ≤ c2) (hd1 : c1 ≤ 9223372036854775807) (hd2 : c2 ≤ 9223372036854775807) (hx : x < 2 ^ n) (hy : y < 2 ^ n) (h1 : Bo w g1 n (bt x)) (h2 : Bo w g2 n (bt y)) :
    Calls Try.prog 21 #[.slice (some ⟨g1, 0, none⟩) n c1, .slice (some ⟨g2, 0, none⟩) n c2, .bool c] w (LPost w.heap.size n (bt ((x + y + c.toNat) % 2 ^ n)) w) :=
  (Add_any g1 c1 g2 c2 n (bt x) (bt y) c w hn hn2 hc1 hc2 hd1 hd2 h1 h2).mono fun e w' h => h.is (add_num c hx hy)
theorem Minus_v (g1 c1 g2 c2 n x y : Nat) (w : World) (hn : 1 ≤ n) (hn2 : n ≤ 65) (hc1 : n ≤ c1) (hc2 : n ≤ c2) (hd1 : c1 ≤ 9223372036854775807) (hd2 : c2 ≤ 9223372036854775807) (hx : x < 2 ^ n) (hy : y < 2 ^ n) (h1 : Bo w g1 n (bt x)) (h2 : Bo w g2 n (bt y)) :
    Calls Try.prog 22 #[.slice (some ⟨g1, 0, none⟩) n c1, .slice (some ⟨g2, 0, none⟩) n c2] w (LPost w.heap.size n (bt ((x + 2 ^ n - y) % 2 ^ n)) w) :=
  (Minus_any g1 c1 g2 c2 n (bt x) (bt y) w hn hn2 hc1 hc2 hd1 hd2 h1 h2).mono fun e w' h => h.is (minus_num hx hy)
theorem Word_v (g cp n x : Nat) (w : World) (hn2 : n ≤ 64) (hcp : n ≤ cp) (hcp2 : cp ≤ 9223372036854775807) (hx : x < 2 ^ n) (hb : Bo w g n (bt x)) :
    Calls Try.prog 20 #[.slice (some ⟨g, 0, none⟩) n cp] w fun e w' => e = .returned (.int .u64 (x : Int)) ∧ w = w' :=
  (Word_any g cp n (bt x) w hn2 hcp hcp2 hb).mono fun e w' h => by rw [vl_self hx] at h; exact h
theorem Zero_v (g1 c1 n x : Nat) (w : World) (hn2 : n ≤ 65) (hc1 : n ≤ c1) (hd1 : c1 ≤ 9223372036854775807) (hx : x < 2 ^ n) (h1 : Bo w g1 n (bt x)) :
    Calls Try.prog 24 #[.slice (some ⟨g1, 0, none⟩) n c1] w fun e w' => e = .returned (.bool (decide (x = 0))) ∧ w = w' :=
  (Zero_any g1 c1 n (bt x) w hn2 hc1 hd1 h1).mono fun e w' h => by rw [vl_self hx] at h; exact h
end Go.Proofs.Ytmbnaejoiglckaa
