/-
  The document's own bits in a list (List) and their word (Word).
-/
import Derived.Test.YtmbnaejoiglckaaWe
import Derived.Laws.AppendOwn
import Derived.Laws.OwnMore
import Derived.OwnWalk
import Derived.Deep.OwnRows
namespace Go.Proofs.Ytmbnaejoiglckaa
open Go.RowKit
set_option linter.unusedVariables false
theorem info4 : (Try.prog.info? 4).map (fun i => (i.zero, i.size, i.bytes)) = some (some (.bool false), 1, 1) := by kernel_rfl
theorem info4_parts : ∃ j, Try.prog.info? 4 = some j ∧ j.zero = some (.bool false) ∧ j.size = 1 ∧ j.bytes = 1 := by
  obtain ⟨j, h1, h2⟩ := Option.map_eq_some_iff.1 info4
  simp only [Prod.mk.injEq] at h2
  exact ⟨j, h1, h2.1, h2.2.1, h2.2.2⟩
/-- bit i of a word -/
def bt (a i : Nat) : Bool := decide (a / 2 ^ i % 2 = 1)
def BL (f : Nat → Bool) (k : Nat) : List Value := (List.range k).map fun i => Value.bool (f i)
theorem BL_succ (f : Nat → Bool) (j : Nat) : BL f (j + 1) = BL f j ++ [Value.bool (f j)] := by
  unfold BL; rw [List.range_succ, List.map_append]; rfl
theorem BL_at (f : Nat → Bool) {j k : Nat} (h : j < k) : (BL f k)[j]? = some (.bool (f j)) := by
  unfold BL; rw [List.getElem?_map, List.getElem?_range h]; rfl
/-- a row of n bits in block g -/
def Bo (w : World) (g n : Nat) (f : Nat → Bool) : Prop := g < w.heap.size ∧ ∀ i, i < n → w.cell? ⟨g, i, none⟩ = some (.bool (f i))
theorem Bo.below {w w' : World} {g n B : Nat} {f : Nat → Bool} (h : Bo w g n f) (hb : Below B w w') (hg : g < B) : Bo w' g n f :=
  ⟨Nat.lt_of_lt_of_le h.1 hb.size, fun i hi => (hb.cell (p := ⟨g, i, none⟩) hg).trans (h.2 i hi)⟩
theorem cell_new (w : World) (v : Value) (t : TypeId) : ∀ j u, [v][j]? = some u → (w.alloc (.cells #[v] t)).cell? ((⟨w.heap.size, 0, none⟩ : Addr).add j) = some u := by
  intro j u h
  cases j with
  | zero =>
    simp at h; subst h
    show (w.alloc (.cells #[v] t)).cell? ⟨w.heap.size, 0, none⟩ = some v
    rw [World.cell?_alloc_at _ _ _ _ rfl]; rfl
  | succ j => simp at h
theorem own_below {w wr w1 : World} {B : Nat} {E : TypeId} {v : Value} {n : Nat} {xs : List Value} {o : Obj} (hb : Below B w wr) (hB : B ≤ wr.heap.size) (hown : wr.ownsRow B E 1 v n xs) (hg : (wr.alloc o).grownBy w1 v.ownBlock) : Below B w w1 :=
  (hb.alloc hB o).grown hg (by simp; omega) (fun j hj => by have := (hown.lt j hj).1; omega)
theorem bo_of_own {w : World} {B n : Nat} {v : Value} {f : Nat → Bool} (h : w.ownsRow B 4 1 v n (BL f n)) (hn : 0 < n) :
    ∃ g cp, v = .slice (some ⟨g, 0, none⟩) n cp ∧ n ≤ cp ∧ cp ≤ maxLen ∧ Bo w g n f ∧ B ≤ g := by
  rcases h.2 with ⟨_, h0⟩ | ⟨g, cap, cur, rfl, hB, hg, hnc, hm, hcs, htk⟩
  · omega
  · refine ⟨g, cap, rfl, hnc, hm, ⟨?_, fun j hj => ?_⟩, hB⟩
    · rcases Nat.lt_or_ge g w.heap.size with hlt | hge
      · exact hlt
      · rw [Array.getElem?_eq_none hge] at hg; cases hg
    · have e1 : cur[j]? = (cur.toList.take (n * 1))[j]? := by
        rw [List.getElem?_take_of_lt (by omega), Array.getElem?_toList]
      have e0 : w.cell? ⟨g, j, none⟩ = cur[j]? := by simp [World.cell?, hg]
      rw [e0, e1, htk, BL_at f hj]
/-- what is a list of bits, new -/
def LPost (B n : Nat) (f : Nat → Bool) (w : World) (e : Ending) (w' : World) : Prop :=
  ∃ g cp, e = .returned (.slice (some ⟨g, 0, none⟩) n cp) ∧ n ≤ cp ∧ cp ≤ 9223372036854775807 ∧ Bo w' g n f ∧ B ≤ g ∧ Below B w w'
theorem bit_m (a k m : Nat) (h : m = a / 2 ^ k) : ((m : Int) % 2 == 1) = bt a k := by
  subst h
  unfold bt
  rw [Bool.eq_iff_iff]
  simp only [beq_iff_eq, decide_eq_true_eq]
  omega
set_option maxHeartbeats 1000000 in
set_option maxRecDepth 100000 in
theorem List_any (n a : Nat) (w : World) (hn : 1 ≤ n) (hn2 : n ≤ 64) (ha : a < 18446744073709551616) :
    Calls Try.prog 19 #[.int .i64 n, .int .u64 a] w (LPost w.heap.size n (bt a) w) := by
  obtain ⟨i0, hi, hz0, hz1, hz2⟩ := info4_parts
  have HA := Lib.hid ha
  go_enter Try.func19, Try.ntmps19
  go_wp2
  go_loopw [1, 5, 6] (fun v1 v5 v6 wr => ∃ k m : Nat, k ≤ n ∧ v6 = .int .i64 k ∧ v1 = .int .u64 m ∧ m < 18446744073709551616 ∧ Hid (m = a / 2 ^ k) ∧ Hid (wr.ownsRow w.heap.size 4 1 v5 k (BL (bt a) k)) ∧ Hid (Below w.heap.size w wr)) (fun _ _ v6 _ => n - (intOf v6).toNat)
  case atStart => exact ⟨0, a, Nat.zero_le _, rfl, rfl, ha, Lib.hid (by simp), Lib.hid (World.ownsRow_nil _ _ _ _), Lib.hid (Below.refl _ _)⟩
  case round =>
    obtain ⟨k, m, hk, rfl, rfl, hm64, HM, HO, HBl⟩ := hrel
    by_cases hlt : k < n
    · have HS : Hid (BL (bt a) (k + 1) = BL (bt a) k ++ [Value.bool ((m : Int) % 2 == 1)]) := Lib.hid (by rw [bit_m a k m HM.out, BL_succ])
      have HM2 : Hid (m / 2 = a / 2 ^ (k + 1)) := Lib.hid (by rw [HM.out, Nat.div_div_eq_div_mul, Nat.pow_succ])
      go_wp2_with (at_builtin; refine wpList_append_own _ rfl (.tmp 12) (.tmp 16) 41 rfl w.heap.size 4 i0 _ 1 1 Try.underlying41 hi hz0 hz1 hz2 rfl (by decide) _ k _ rfl (HO.out.alloc _) ⟨wr.heap.size, 0, none⟩ 1 1 [Value.bool ((m : Int) % 2 == 1)] rfl rfl (cell_new _ _ _) ?c2 ?c3 ?c4 ?c5 ?_)
      case c2 => intro u hu; simp at hu; subst hu; rfl
      case c3 => unfold maxLen; omega
      case c4 => omega
      case c5 => have := HBl.out.size; simp; omega
      intro v1 w3 hown1 hg1 _
      have HO2 : Hid (w3.ownsRow w.heap.size 4 1 v1 (k + 1) (BL (bt a) (k + 1))) := Lib.hid (by rw [HS.out]; exact hown1)
      have HB2 : Hid (Below w.heap.size w w3) := Lib.hid (own_below HBl.out HBl.out.size HO.out hg1)
      clear hown1 hg1 HS
      go_wp2
      go_roundw
      case rel => exact ⟨k + 1, m / 2, by omega, by go_num, by go_num, by omega, HM2, HO2, HB2⟩
      case measure => simp [intOf]; omega
    · obtain rfl : n = k := by omega
      go_wp2
      go_ret
      obtain ⟨g, cp, hv, h1, h2, hb, hg⟩ := bo_of_own HO.out (by omega)
      exact ⟨g, cp, by rw [hv]; rfl, h1, by unfold maxLen at h2; omega, hb, hg, HBl.out⟩
/-- the number that m bits from place k on are -/
def vl (f : Nat → Bool) : Nat → Nat → Nat
  | _, 0 => 0
  | k, m + 1 => (f k).toNat + 2 * vl f (k + 1) m
theorem vl_lt (f : Nat → Bool) : ∀ m k, vl f k m < 2 ^ m
  | 0, k => by simp [vl]
  | m + 1, k => by
    have := vl_lt f m (k + 1)
    have h2 : (f k).toNat ≤ 1 := by cases f k <;> simp
    unfold vl
    rw [Nat.pow_succ]
    omega
theorem vl_bt (a : Nat) : ∀ m k, vl (bt a) k m = a / 2 ^ k % 2 ^ m
  | 0, k => by simp [vl, Nat.mod_one]
  | m + 1, k => by
    have hb : (bt a k).toNat = a / 2 ^ k % 2 := by
      unfold bt
      rcases Nat.mod_two_eq_zero_or_one (a / 2 ^ k) with e | e <;> simp [e]
    unfold vl
    rw [vl_bt a m (k + 1), hb, Nat.pow_succ 2 k, ← Nat.div_div_eq_div_mul, Nat.pow_succ 2 m, Nat.mul_comm (2 ^ m), Nat.mod_mul]
set_option maxHeartbeats 1000000 in
set_option maxRecDepth 100000 in
theorem Word_any (g cp n : Nat) (f : Nat → Bool) (w : World) (hn2 : n ≤ 64) (hcp : n ≤ cp) (hcp2 : cp ≤ 9223372036854775807) (hb : Bo w g n f) :
    Calls Try.prog 20 #[.slice (some ⟨g, 0, none⟩) n cp] w fun e w' => e = .returned (.int .u64 ((vl f 0 n : Nat) : Int)) ∧ w = w' := by
  have HB := Lib.hid hb
  clear hb
  go_enter Try.func20, Try.ntmps20
  go_wp2
  go_loop [3, 4] (fun v3 v4 => ∃ k m : Nat, k ≤ n ∧ v4 = .int .i64 ((k : Int) - 1) ∧ v3 = .int .u64 m ∧ m < 18446744073709551616 ∧ Hid (m = vl f k (n - k))) (fun _ v4 => (intOf v4 + 1).toNat)
  case atStart => exact ⟨n, 0, Nat.le_refl _, rfl, rfl, by decide, Lib.hid (by simp [vl])⟩
  case round =>
    obtain ⟨k, m, hk, rfl, rfl, hm, HM⟩ := hrel
    rcases Nat.eq_zero_or_pos k with hk0 | hk0
    · subst hk0
      go_wp2
      go_ret
      exact ⟨ret_int (by rw [HM.out]; rfl), rfl⟩
    · obtain ⟨j, rfl⟩ : ∃ j, k = j + 1 := ⟨k - 1, by omega⟩
      have hm63 : m < 9223372036854775808 := by
        rw [HM.out]
        exact Nat.lt_of_lt_of_le (vl_lt f (n - (j + 1)) (j + 1)) (Nat.pow_le_pow_right (by decide) (show n - (j + 1) ≤ 63 by omega))
      have hc := HB.out.2 j (by omega)
      have HV : Hid (vl f j (n - j) = (f j).toNat + 2 * m) := Lib.hid (by
        rw [HM.out, show n - j = (n - (j + 1)) + 1 from by omega]; rfl)
      obtain ⟨b, eb⟩ : ∃ b, b = f j := ⟨_, rfl⟩
      rw [← eb] at hc HV
      have EB := Lib.hid eb
      clear eb
      cases b
      · go_wp2
        go_round
        case rel => exact ⟨j, 2 * m, by omega, by go_num, by go_num, by omega, Lib.hid (by rw [HV.out]; simp)⟩
        case measure => simp [intOf]
      · go_wp2
        go_round
        case rel => exact ⟨j, 2 * m + 1, by omega, by go_num, by go_num, by omega, Lib.hid (by rw [HV.out]; simp; omega)⟩
        case measure => simp [intOf]
end Go.Proofs.Ytmbnaejoiglckaa
