/-
  The document's own bits in a list (List) and their word (Word).
-/
import Derived.Test.YtmbnaejoiglckaaDoorWh
import Derived.Laws.AppendOwn
import Derived.Laws.OwnMore
import Derived.OwnWalk
import Derived.Deep.OwnRows
namespace Go.Proofs.YtmbnaejoiglckaaDoor
open Go.RowKit
set_option linter.unusedVariables false
theorem info4 : (Tryd.prog.info? 4).map (fun i => (i.zero, i.size, i.bytes)) = some (some (.bool false), 1, 1) := by kernel_rfl
theorem info4_parts : ∃ j, Tryd.prog.info? 4 = some j ∧ j.zero = some (.bool false) ∧ j.size = 1 ∧ j.bytes = 1 := by
  obtain ⟨j, h1, h2⟩ := Option.map_eq_some_iff.1 info4
  simp only [Prod.mk.injEq] at h2
  exact ⟨j, h1, h2.1, h2.2.1, h2.2.2⟩
/-- bit i of a word -/
def bt (a i : Nat) : Bool := decide (a / 2 ^ i % 2 = 1)
def BL (f : Nat → Bool) (k : Nat) : List Value := (List.range k).map fun i => Value.bool (f i)
theorem BL_succ (f : Nat → Bool) (j : Nat) : BL f (j + 1) = BL f j ++ [Value.bool (f j)] := by
  unfold BL; rw [List.range_succ, List.map_append]; rfl
theorem BL_at (f : Nat → Bool) {j k : Nat} (h : j < k) : (BL f k)[j]? = some (.bool (f j)) := by
  unfold BL; rw [List.getElem?_map, List.getElem?_range h]; rfl
/-- a row of n bits in block g -/
def Bo (w : World) (g n : Nat) (f : Nat → Bool) : Prop := g < w.heap.size ∧ ∀ i, i < n → w.cell? ⟨g, i, none⟩ = some (.bool (f i))
theorem Bo.below {w w' : World} {g n B : Nat} {f : Nat → Bool} (h : Bo w g n f) (hb : Below B w w') (hg : g < B) : Bo w' g n f :=
  ⟨Nat.lt_of_lt_of_le h.1 hb.size, fun i hi => (hb.cell (p := ⟨g, i, none⟩) hg).trans (h.2 i hi)⟩
theorem cell_new (w : World) (v : Value) (t : TypeId) : ∀ j u, [v][j]? = some u → (w.alloc (.cells #[v] t)).cell? ((⟨w.heap.size, 0, none⟩ : Addr).add j) = some u := by
  intro j u h
  cases j with
  | zero =>
    simp at h; subst h
    show (w.alloc (.cells #[v] t)).cell? ⟨w.heap.size, 0, none⟩ = some v
    rw [World.cell?_alloc_at _ _ _ _ rfl]; rfl
  | succ j => simp at h
theorem own_below {w wr w1 : World} {B : Nat} {E : TypeId} {v : Value} {n : Nat} {xs : List Value} {o : Obj} (hb : Below B w wr) (hB : B ≤ wr.heap.size) (hown : wr.ownsRow B E 1 v n xs) (hg : (wr.alloc o).grownBy w1 v.ownBlock) : Below B w w1 :=
  (hb.alloc hB o).grown hg (by simp; omega) (fun j hj => by have := (hown.lt j hj).1; omega)
theorem bo_of_own {w : World} {B n : Nat} {v : Value} {f : Nat → Bool} (h : w.ownsRow B 4 1 v n (BL f n)) (hn : 0 < n) :
    ∃ g cp, v = .slice (some ⟨g, 0, none⟩) n cp ∧ n ≤ cp ∧ cp ≤ maxLen ∧ Bo w g n f ∧ B ≤ g := by
  rcases h.2 with ⟨_, h0⟩ | ⟨g, cap, cur, rfl, hB, hg, hnc, hm, hcs, htk⟩
  · omega
  · refine ⟨g, cap, rfl, hnc, hm, ⟨?_, fun j hj => ?_⟩, hB⟩
    · rcases Nat.lt_or_ge g w.heap.size with hlt | hge
      · exact hlt
      · rw [Array.getElem?_eq_none hge] at hg; cases hg
    · have e1 : cur[j]? = (cur.toList.take (n * 1))[j]? := by
        rw [List.getElem?_take_of_lt (by omega), Array.getElem?_toList]
      have e0 : w.cell? ⟨g, j, none⟩ = cur[j]? := by simp [World.cell?, hg]
      rw [e0, e1, htk, BL_at f hj]
/-- what is a list of bits, new -/
def LPost (B n : Nat) (f : Nat → Bool) (w : World) (e : Ending) (w' : World) : Prop :=
  ∃ g cp, e = .returned (.slice (some ⟨g, 0, none⟩) n cp) ∧ n ≤ cp ∧ cp ≤ 9223372036854775807 ∧ Bo w' g n f ∧ B ≤ g ∧ Below B w w'
theorem bit_m (a k m : Nat) (h : m = a / 2 ^ k) : ((m : Int) % 2 == 1) = bt a k := by
  subst h
  unfold bt
  rw [Bool.eq_iff_iff]
  simp only [beq_iff_eq, decide_eq_true_eq]
  omega
set_option maxHeartbeats 1000000 in
set_option maxRecDepth 100000 in
theorem List_any (n a : Nat) (w : World) (hn : 1 ≤ n) (hn2 : n ≤ 64) (ha : a < 18446744073709551616) :
    Calls Tryd.prog 38 #[.int .i64 n, .int .u64 a] w (LPost w.heap.size n (bt a) w) := by
  obtain ⟨i0, hi, hz0, hz1, hz2⟩ := info4_parts
  have HA := Lib.hid ha
  go_enter Tryd.func38, Tryd.ntmps38
  go_wp2
  go_loopw [1, 5, 6] (fun v1 v5 v6 wr => ∃ k m : Nat, k ≤ n ∧ v6 = .int .i64 k ∧ v1 = .int .u64 m ∧ m < 18446744073709551616 ∧ Hid (m = a / 2 ^ k) ∧ Hid (wr.ownsRow w.heap.size 4 1 v5 k (BL (bt a) k)) ∧ Hid (Below w.heap.size w wr)) (fun _ _ v6 _ => n - (intOf v6).toNat)
  case atStart => exact ⟨0, a, Nat.zero_le _, rfl, rfl, ha, Lib.hid (by simp), Lib.hid (World.ownsRow_nil _ _ _ _), Lib.hid (Below.refl _ _)⟩
  case round =>
    obtain ⟨k, m, hk, rfl, rfl, hm64, HM, HO, HBl⟩ := hrel
    by_cases hlt : k < n
    · have HS : Hid (BL (bt a) (k + 1) = BL (bt a) k ++ [Value.bool ((m : Int) % 2 == 1)]) := Lib.hid (by rw [bit_m a k m HM.out, BL_succ])
      have HM2 : Hid (m / 2 = a / 2 ^ (k + 1)) := Lib.hid (by rw [HM.out, Nat.div_div_eq_div_mul, Nat.pow_succ])
      go_wp2_with (at_builtin; refine wpList_append_own _ rfl (.tmp 12) (.tmp 16) 63 rfl w.heap.size 4 i0 _ 1 1 Tryd.underlying63 hi hz0 hz1 hz2 rfl (by decide) _ k _ rfl (HO.out.alloc _) ⟨wr.heap.size, 0, none⟩ 1 1 [Value.bool ((m : Int) % 2 == 1)] rfl rfl (cell_new _ _ _) ?c2 ?c3 ?c4 ?c5 ?_)
      case c2 => intro u hu; simp at hu; subst hu; rfl
      case c3 => unfold maxLen; omega
      case c4 => omega
      case c5 => have := HBl.out.size; simp; omega
      intro v1 w3 hown1 hg1 _
      have HO2 : Hid (w3.ownsRow w.heap.size 4 1 v1 (k + 1) (BL (bt a) (k + 1))) := Lib.hid (by rw [HS.out]; exact hown1)
      have HB2 : Hid (Below w.heap.size w w3) := Lib.hid (own_below HBl.out HBl.out.size HO.out hg1)
      clear hown1 hg1 HS
      go_wp2
      go_roundw
      case rel => exact ⟨k + 1, m / 2, by omega, by go_num, by go_num, by omega, HM2, HO2, HB2⟩
      case measure => simp [intOf]; omega
    · obtain rfl : n = k := by omega
      go_wp2
      go_ret
      obtain ⟨g, cp, hv, h1, h2, hb, hg⟩ := bo_of_own HO.out (by omega)
      exact ⟨g, cp, by rw [hv]; rfl, h1, by unfold maxLen at h2; omega, hb, hg, HBl.out⟩
/-- the number that m bits from place k on are -/
def vl (f : Nat → Bool) : Nat → Nat → Nat
  | _, 0 => 0
  | k, m + 1 => (f k).toNat + 2 * vl f (k + 1) m
theorem vl_lt (f : Nat → Bool) : ∀ m k, vl f k m < 2 ^ m
  | 0, k => by simp [vl]
  | m + 1, k => by
    have := vl_lt f m (k + 1)
    have h2 : (f k).toNat ≤ 1 := by cases f k <;> simp
    unfold vl
    rw [Nat.pow_succ]
    omega
theorem vl_bt (a : Nat) : ∀ m k, vl (bt a) k m = a / 2 ^ k % 2 ^ m
  | 0, k => by simp [vl, Nat.mod_one]
  | m + 1, k => by
    have hb : (bt a k).toNat = a / 2 ^ k % 2 := by
      unfold bt
      rcases Nat.mod_two_eq_zero_or_one (a / 2 ^ k) with e | e <;> simp [e]
    unfold vl
    rw [vl_bt a m (k + 1), hb, Nat.pow_succ 2 k, ← Nat.div_div_eq_div_mul, Nat.pow_succ 2 m, Nat.mul_comm (2 ^ m), Nat.mod_mul]
set_option maxHeartbeats 1000000 in
set_option maxRecDepth 100000 in
theorem Word_any (g cp n : Nat) (f : Nat → Bool) (w : World) (hn2 : n ≤ 64) (hcp : n ≤ cp) (hcp2 : cp ≤ 9223372036854775807) (hb : Bo w g n f) :
    Calls Tryd.prog 43 #[.slice (some ⟨g, 0, none⟩) n cp] w fun e w' => e = .returned (.int .u64 ((vl f 0 n : Nat) : Int)) ∧ w = w' := by
  have HB := Lib.hid hb
  clear hb
  go_enter Tryd.func43, Tryd.ntmps43
  go_wp2
  go_loop [3, 4] (fun v3 v4 => ∃ k m : Nat, k ≤ n ∧ v4 = .int .i64 ((k : Int) - 1) ∧ v3 = .int .u64 m ∧ m < 18446744073709551616 ∧ Hid (m = vl f k (n - k))) (fun _ v4 => (intOf v4 + 1).toNat)
  case atStart => exact ⟨n, 0, Nat.le_refl _, rfl, rfl, by decide, Lib.hid (by simp [vl])⟩
  case round =>
    obtain ⟨k, m, hk, rfl, rfl, hm, HM⟩ := hrel
    rcases Nat.eq_zero_or_pos k with hk0 | hk0
    · subst hk0
      go_wp2
      go_ret
      exact ⟨ret_int (by rw [HM.out]; rfl), rfl⟩
    · obtain ⟨j, rfl⟩ : ∃ j, k = j + 1 := ⟨k - 1, by omega⟩
      have hm63 : m < 9223372036854775808 := by
        rw [HM.out]
        exact Nat.lt_of_lt_of_le (vl_lt f (n - (j + 1)) (j + 1)) (Nat.pow_le_pow_right (by decide) (show n - (j + 1) ≤ 63 by omega))
      have hc := HB.out.2 j (by omega)
      have HV : Hid (vl f j (n - j) = (f j).toNat + 2 * m) := Lib.hid (by
        rw [HM.out, show n - j = (n - (j + 1)) + 1 from by omega]; rfl)
      obtain ⟨b, eb⟩ : ∃ b, b = f j := ⟨_, rfl⟩
      rw [← eb] at hc HV
      have EB := Lib.hid eb
      clear eb
      cases b
      · go_wp2
        go_round
        case rel => exact ⟨j, 2 * m, by omega, by go_num, by go_num, by omega, Lib.hid (by rw [HV.out]; simp)⟩
        case measure => simp [intOf]
      · go_wp2
        go_round
        case rel => exact ⟨j, 2 * m + 1, by omega, by go_num, by go_num, by omega, Lib.hid (by rw [HV.out]; simp; omega)⟩
        case measure => simp [intOf]
theorem Bo.lt {w : World} {g n : Nat} {f : Nat → Bool} (h : Bo w g n f) : g < w.heap.size := h.1
theorem Bo.at_ {w : World} {g n : Nat} {f : Nat → Bool} (h : Bo w g n f) {i : Nat} (hi : i < n) : w.cell? ⟨g, i, none⟩ = some (.bool (f i)) := h.2 i hi
theorem List_int (n : Int) (a : Nat) (w : World) (h : Wd.ok n) (ha : a < 18446744073709551616) :
    Calls Tryd.prog 38 #[.int .i64 n, .int .u64 a] w (LPost w.heap.size n.toNat (bt a) w) := by
  rcases h with rfl | rfl
  · exact List_any 32 a w (by decide) (by decide) ha
  · exact List_any 64 a w (by decide) (by decide) ha
theorem vl_cut (n : Int) (a : Nat) (h : Wd.ok n) (ha : a < 18446744073709551616) : vl (bt a) 0 n.toNat = Wd.cut n a := by
  rw [vl_bt, Nat.pow_zero, Nat.div_one, Wd.cut_mod h ha, Wd.md_pow h]
/-- counted from the lowest one: the bits that are 1, those behind the last one, those ahead of the first one -/
def un (f : Nat → Bool) : Nat → Nat × Nat × Nat
  | 0 => (0, 0, 0)
  | k + 1 => if f k then ((un f k).1 + 1, 0, (un f k).2.2) else ((un f k).1, (un f k).2.1 + 1, if (un f k).1 = 0 then (un f k).2.2 + 1 else (un f k).2.2)
theorem un_le (f : Nat → Bool) : ∀ k, (un f k).1 ≤ k ∧ (un f k).2.1 ≤ k ∧ (un f k).2.2 ≤ k
  | 0 => ⟨Nat.le_refl _, Nat.le_refl _, Nat.le_refl _⟩
  | k + 1 => by
    have := un_le f k
    unfold un
    split
    · simp only; omega
    · simp only; split <;> omega
theorem bitLen_is (x k : Nat) (h0 : 2 ^ k ≤ x) (h1 : x < 2 ^ (k + 1)) (hk : k < 64) : Lib.bitLen x = k + 1 := by
  have hx : x < 18446744073709551616 := Nat.lt_of_lt_of_le h1 (Nat.pow_le_pow_right (by decide) (show k + 1 ≤ 64 by omega))
  obtain ⟨l1, l2⟩ := bitLen_two x hx
  have hx0 : x ≠ 0 := by have := Nat.two_pow_pos k; omega
  obtain ⟨l3, l4⟩ := l2 hx0
  rcases Nat.lt_trichotomy (Lib.bitLen x) (k + 1) with g | g | g
  · have := Nat.pow_le_pow_right (show 0 < 2 by decide) (show Lib.bitLen x ≤ k by omega)
    omega
  · exact g
  · have := Nat.pow_le_pow_right (show 0 < 2 by decide) (show k + 1 ≤ Lib.bitLen x - 1 by omega)
    omega
theorem mod_step (a k : Nat) : a % 2 ^ (k + 1) = a % 2 ^ k + 2 ^ k * (a / 2 ^ k % 2) := by
  rw [Nat.pow_succ, Nat.mod_mul]
theorem low_add (x k : Nat) (h0 : x ≠ 0) (hx : x < 2 ^ k) (hk : k < 64) : Wd.low 64 (x + 2 ^ k) = Wd.low 64 x := by
  obtain ⟨t1, q, hq⟩ := Wd.low_lt hx h0 (by omega)
  generalize Wd.low 64 x = t at *
  have e : x + 2 ^ k = 2 ^ t * (2 * (q + 2 ^ (k - t - 1)) + 1) := by
    have : 2 ^ k = 2 ^ t * (2 * 2 ^ (k - t - 1)) := by
      rw [← Nat.pow_succ', ← Nat.pow_add]; congr 1; omega
    rw [this, hq, ← Nat.mul_add]; congr 1; omega
  rw [e]
  refine Wd.low_uniq 64 t _ ?_
  rw [← e]
  have : 2 ^ (k + 1) ≤ 2 ^ 64 := Nat.pow_le_pow_right (by decide) (by omega)
  rw [Nat.pow_succ] at this
  omega
theorem low_pow (k : Nat) (hk : k < 64) : Wd.low 64 (2 ^ k) = k := by
  have := Wd.low_uniq 64 k 0 (by rw [Nat.mul_zero, Nat.zero_add, Nat.mul_one]; exact Nat.pow_lt_pow_right (by decide) hk)
  simpa using this
theorem un_bt (a : Nat) : ∀ k, k ≤ 64 → (un (bt a) k).1 = Wd.pop k a ∧ (un (bt a) k).2.1 = k - Lib.bitLen (a % 2 ^ k) ∧ (un (bt a) k).2.2 = (if a % 2 ^ k = 0 then k else Wd.low 64 (a % 2 ^ k))
  | 0, _ => by simp [un, Wd.pop, Nat.mod_one]
  | k + 1, hk => by
    obtain ⟨i1, i2, i3⟩ := un_bt a k (by omega)
    have hlt : a % 2 ^ k < 2 ^ k := Nat.mod_lt _ (Nat.two_pow_pos _)
    have hp : Wd.pop (k + 1) a = Wd.pop k a + a / 2 ^ k % 2 := by
      have := Wd.pop_split k 1 a
      rw [this, Wd.pop_mod]; simp [Wd.pop]
    have hz : Wd.pop k a = 0 ↔ a % 2 ^ k = 0 := by rw [← Wd.pop_mod]; exact Wd.pop_eq_zero k _ hlt
    have hl : Lib.bitLen (a % 2 ^ k) ≤ k := Lib.bitLen_le _ _ (by omega) hlt
    have hs := mod_step a k
    rcases Nat.mod_two_eq_zero_or_one (a / 2 ^ k) with hb | hb
    · have hf : bt a k = false := by unfold bt; rw [hb]; rfl
      have hs' : a % 2 ^ (k + 1) = a % 2 ^ k := by rw [hs, hb]; simp
      rw [hs', hp, hb]
      unfold un
      rw [hf]
      simp only [Bool.false_eq_true, if_false]
      refine ⟨by omega, by omega, ?_⟩
      rw [i1]
      by_cases h0 : a % 2 ^ k = 0
      · rw [if_pos (hz.2 h0), if_pos h0, i3, if_pos h0]
      · rw [if_neg (fun e => h0 (hz.1 e)), if_neg h0, i3, if_neg h0]
    · have hf : bt a k = true := by unfold bt; rw [hb]; rfl
      rw [hb, Nat.mul_one] at hs
      have hpos := Nat.two_pow_pos k
      rw [hp, hb]
      unfold un
      rw [hf]
      simp only [if_true]
      refine ⟨by omega, ?_, ?_⟩
      · have := bitLen_is (a % 2 ^ (k + 1)) k (by omega) (Nat.mod_lt _ (Nat.two_pow_pos _)) (by omega)
        omega
      · rw [if_neg (by omega), i3, hs]
        by_cases h0 : a % 2 ^ k = 0
        · rw [if_pos h0, h0, Nat.zero_add, low_pow k (by omega)]
        · rw [if_neg h0, low_add _ k h0 hlt (by omega)]
theorem un_uz (n : Int) (a : Nat) (h : Wd.ok n) (ha : a < 18446744073709551616) :
    (un (bt a) n.toNat).2.1 = uz 0 n a ∧ (un (bt a) n.toNat).2.2 = uz 1 n a ∧ (un (bt a) n.toNat).1 = uz 2 n a ∧ ((un (bt a) n.toNat).1 = 0 ↔ uz 3 n a = 1) ∧ ((un (bt a) n.toNat).1 ≠ 0 ↔ uz 3 n a = 0) := by
  have hN : n.toNat ≤ 64 := by rcases h with rfl | rfl <;> decide
  obtain ⟨i1, i2, i3⟩ := un_bt a n.toNat hN
  have hc := Wd.cut_mod h ha
  rw [Wd.md_pow h] at hc
  have hlt : a % 2 ^ n.toNat < 2 ^ n.toNat := Nat.mod_lt _ (Nat.two_pow_pos _)
  rw [← hc] at i2 i3 hlt
  have hz : Wd.pop n.toNat a = 0 ↔ Wd.cut n a = 0 := by rw [← Wd.pop_mod, ← hc]; exact Wd.pop_eq_zero _ _ hlt
  have e3 : uz 3 n a = if Wd.cut n a = 0 then 1 else 0 := by simp [uz]
  refine ⟨by rw [i2, Wd.uz0], ?_, ?_, ?_, ?_⟩
  · rw [i3, Wd.uz1]
    by_cases h0 : Wd.cut n a = 0
    · rw [if_pos h0, h0, Wd.low_zero]; omega
    · rw [if_neg h0]
      have := (Wd.low_lt hlt h0 hN).1
      omega
  · rw [i1, Wd.uz2, Wd.pop64 h (by rw [Wd.md_pow h]; exact hlt), ← Wd.pop_mod, ← hc]
  · rw [i1, hz, e3]; by_cases q : Wd.cut n a = 0 <;> simp [q]
  · rw [i1, ne_eq, hz, e3]; by_cases q : Wd.cut n a = 0 <;> simp [q]
set_option maxHeartbeats 2000000 in
set_option maxRecDepth 100000 in
theorem RUnary_any (op : Int) (n a : Nat) (w : World) (hn : 1 ≤ n) (hn2 : n ≤ 64) (h0 : 0 ≤ op) (h3 : op ≤ 3) (hL : Calls Tryd.prog 38 #[.int .i64 n, .int .u64 a] w (LPost w.heap.size n (bt a) w)) :
    Calls Tryd.prog 16 #[.int .i64 op, .int .i64 n, .int .u64 a] w fun e w' =>
      e = .returned (.int .u64 ((if op = 0 then (un (bt a) n).2.1 else if op = 1 then (un (bt a) n).2.2 else if op = 2 then (un (bt a) n).1 else if (un (bt a) n).1 = 0 then 1 else 0 : Nat) : Int)) ∧ Below w.heap.size w w' := by
  have HL := Lib.hid hL
  clear hL
  go_enter Tryd.func16, Tryd.ntmps16
  go_wp2_with (go_at_call 38; with_reducible refine HL.out.mono ?_; rintro e w1 hL; unfold LPost at hL; obtain ⟨g1, c1, rfl, n1, m1, b1, k1, h1⟩ := hL; have B1 := Lib.hid b1; have H1 := Lib.hid h1; clear b1 h1)
  go_loop [8, 9, 10, 11] (fun v8 v9 v10 v11 => ∃ k o x y : Nat, k ≤ n ∧ v11 = .int .i64 k ∧ v8 = .int .i64 o ∧ v9 = .int .i64 x ∧ v10 = .int .i64 y ∧ o ≤ k ∧ x ≤ k ∧ y ≤ k ∧ Hid (o = (un (bt a) k).1 ∧ x = (un (bt a) k).2.1 ∧ y = (un (bt a) k).2.2)) (fun _ _ _ v11 => n - (intOf v11).toNat)
  case atStart => exact ⟨0, 0, 0, 0, Nat.zero_le _, rfl, rfl, rfl, rfl, Nat.le_refl _, Nat.le_refl _, Nat.le_refl _, Lib.hid ⟨rfl, rfl, rfl⟩⟩
  case round =>
    obtain ⟨k, o, x, y, hk, rfl, rfl, rfl, rfl, ho, hx, hy, HU⟩ := hrel
    by_cases hlt : k < n
    · have hc := B1.out.at_ hlt
      have HS : Hid (un (bt a) (k + 1) = if bt a k then (o + 1, 0, y) else (o, x + 1, if o = 0 then y + 1 else y)) := Lib.hid (by
        rw [HU.out.1, HU.out.2.1, HU.out.2.2]; rfl)
      obtain ⟨b, eb⟩ : ∃ b, b = bt a k := ⟨_, rfl⟩
      rw [← eb] at hc HS
      clear eb
      cases b
      · by_cases ho0 : o = 0
        · have he : ((o : Int) == 0) = true := by simp [ho0]
          have HS2 : Hid (un (bt a) (k + 1) = (o, x + 1, y + 1)) := Lib.hid (by rw [HS.out]; simp [ho0])
          clear ho0 HS
          go_wp2
          go_round
          case rel => exact ⟨k + 1, o, x + 1, y + 1, by omega, by go_num, rfl, by go_num, by go_num, by omega, by omega, by omega, Lib.hid (by rw [HS2.out]; exact ⟨rfl, rfl, rfl⟩)⟩
          case measure => simp [intOf]; omega
        · have he : ((o : Int) == 0) = false := by simp [ho0]
          have HS2 : Hid (un (bt a) (k + 1) = (o, x + 1, y)) := Lib.hid (by rw [HS.out]; simp [ho0])
          clear ho0 HS
          go_wp2
          go_round
          case rel => exact ⟨k + 1, o, x + 1, y, by omega, by go_num, rfl, by go_num, rfl, by omega, by omega, by omega, Lib.hid (by rw [HS2.out]; exact ⟨rfl, rfl, rfl⟩)⟩
          case measure => simp [intOf]; omega
      · have HS2 : Hid (un (bt a) (k + 1) = (o + 1, 0, y)) := Lib.hid (by rw [HS.out]; simp)
        clear HS
        go_wp2
        go_round
        case rel => exact ⟨k + 1, o + 1, 0, y, by omega, by go_num, by go_num, rfl, rfl, by omega, by omega, by omega, Lib.hid (by rw [HS2.out]; exact ⟨rfl, rfl, rfl⟩)⟩
        case measure => simp [intOf]; omega
    · obtain rfl : n = k := by omega
      rcases (by omega : op = 0 ∨ op = 1 ∨ op = 2 ∨ op = 3) with rfl | rfl | rfl | rfl
      all_goals
        go_wp2
        all_goals
          go_ret
          refine ⟨ret_int ?_, H1.out⟩
          have HE := HU.out
          first
            | exact congrArg (fun z : Nat => (z : Int)) HE.2.1
            | exact congrArg (fun z : Nat => (z : Int)) HE.2.2
            | exact congrArg (fun z : Nat => (z : Int)) HE.1
            | rfl
            | (exfalso; have h9 := HE.1; clear HE HU; simp_all; done)
            | (exfalso; have h9 := HE.1; clear HE HU; simp_all; omega)
            | (exfalso; have h9 := HE.1; omega)
end Go.Proofs.YtmbnaejoiglckaaDoor
