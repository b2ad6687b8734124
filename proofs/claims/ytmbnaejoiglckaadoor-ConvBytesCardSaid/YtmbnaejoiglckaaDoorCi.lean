/-
  The document's own bytes of a word, and the word of bytes.
-/
import Derived.Test.YtmbnaejoiglckaaDoorCh
namespace Go.Proofs.YtmbnaejoiglckaaDoor
open Go.RowKit
set_option linter.unusedVariables false
theorem byt_of_own {w : World} {B n : Nat} {v : Value} {l : List Nat} (h : w.ownsRow B 5 1 v n (l.map U8)) (hn : 0 < n) (hx : ∀ x ∈ l, x < 256) : ∃ g cp, v = .slice (some ⟨g, 0, none⟩) n cp ∧ Byt w (some ⟨g, 0, none⟩) n cp l ∧ B ≤ g := by
  rcases h.2 with ⟨_, h0⟩ | ⟨g, cap, cur, rfl, hB, hg, hnc, hm, hcs, htk⟩
  · omega
  · have hlen : l.length = n := by have := h.1; rw [List.length_map] at this; omega
    refine ⟨g, cap, rfl, ⟨hlen, hx, hnc, hm, fun _ => ⟨g, 0, rfl, ?_, fun j hj => ?_⟩⟩, hB⟩
    · rcases Nat.lt_or_ge g w.heap.size with hlt | hge
      · exact hlt
      · rw [Array.getElem?_eq_none hge] at hg; cases hg
    · rw [Nat.zero_add, cell_of_row w g j cur 5 (0, 0) hg]
      have e1 : cur[j]? = (cur.toList.take (n * 1))[j]? := by
        rw [List.getElem?_take_of_lt (by omega), Array.getElem?_toList]
      rw [e1, htk, map_getD l j (by omega)]; rfl
theorem bys_succ (a k : Nat) : (bys a (k + 1)).map U8 = (bys a k).map U8 ++ [U8 (by_ a k)] := by
  unfold bys
  rw [List.range_succ, List.map_append, List.map_append]
  rfl
/-- what is a word's bytes, new, with room or without -/
def ZPost (B n : Nat) (l : List Nat) (w : World) (e : Ending) (w' : World) : Prop :=
  ∃ g cp, e = .returned (.slice (some ⟨g, 0, none⟩) n cp) ∧ Byt w' (some ⟨g, 0, none⟩) n cp l ∧ B ≤ g ∧ Below B w w'
set_option maxHeartbeats 1000000 in
set_option maxRecDepth 100000 in
theorem RBytes_any (n a : Nat) (w : World) (hn : 1 ≤ n) (hn2 : n ≤ 8) (ha : a < 18446744073709551616) :
    Calls Tryd.prog 23 #[.int .u64 a, .int .i64 n] w (ZPost w.heap.size n (bys a n) w) := by
  obtain ⟨i0, hi, hz0, hz1, hz2⟩ := info5_parts
  go_enter Tryd.func23, Tryd.ntmps23
  go_wp2
  go_loopw [0, 5, 6] (fun v0 v5 v6 wr => ∃ k m : Nat, k ≤ n ∧ v6 = .int .i64 k ∧ v0 = .int .u64 m ∧ m < 18446744073709551616 ∧ Hid (m = a / 2 ^ (8 * k)) ∧ Hid (wr.ownsRow w.heap.size 5 1 v5 k ((bys a k).map U8)) ∧ Hid (Below w.heap.size w wr)) (fun _ _ v6 _ => n - (intOf v6).toNat)
  case atStart => exact ⟨0, a, Nat.zero_le _, rfl, rfl, ha, Lib.hid (by simp), Lib.hid (World.ownsRow_nil _ _ _ _), Lib.hid (Below.refl _ _)⟩
  case round =>
    obtain ⟨k, m, hk, rfl, rfl, hm64, HM, HO, HBl⟩ := hrel
    by_cases hlt : k < n
    · obtain ⟨y, ey⟩ : ∃ y, y = by_ a k := ⟨_, rfl⟩
      have hy : (m : Int) % 256 = (y : Int) := by rw [ey, HM.out]; unfold by_; simp
      have hy2 : (y : Int) < 256 := by omega
      have HS : Hid ((bys a (k + 1)).map U8 = (bys a k).map U8 ++ [U8 y]) := Lib.hid (by rw [ey, bys_succ])
      have HM2 : Hid (m / 256 = a / 2 ^ (8 * (k + 1))) := Lib.hid (by rw [HM.out, Nat.div_div_eq_div_mul, show 8 * (k + 1) = 8 * k + 8 from by omega, Nat.pow_add])
      clear ey
      go_wp2_with (at_builtin; refine wpList_append_own _ rfl (.tmp 12) (.tmp 16) 40 rfl w.heap.size 5 i0 _ 1 1 Tryd.underlying40 hi hz0 hz1 hz2 rfl (by decide) _ k _ rfl (HO.out.alloc _) ⟨wr.heap.size, 0, none⟩ 1 1 [U8 y] rfl rfl (cell_new _ _ _) ?c2 ?c3 ?c4 ?c5 ?_)
      case c2 => intro u hu; simp at hu; subst hu; rfl
      case c3 => unfold maxLen; omega
      case c4 => omega
      case c5 => have := HBl.out.size; simp; omega
      intro v1 w3 hown1 hg1 _
      have HO2 : Hid (w3.ownsRow w.heap.size 5 1 v1 (k + 1) ((bys a (k + 1)).map U8)) := Lib.hid (by rw [HS.out]; exact hown1)
      have HB2 : Hid (Below w.heap.size w w3) := Lib.hid (own_below HBl.out HBl.out.size HO.out hg1)
      clear hown1 hg1 HS
      go_wp2
      go_roundw
      case rel => exact ⟨k + 1, m / 256, by omega, by go_num, by go_num, by omega, HM2, HO2, HB2⟩
      case measure => simp [intOf]; omega
    · obtain rfl : n = k := by omega
      go_wp2
      go_ret
      obtain ⟨g, cp, hv, hb, hg⟩ := byt_of_own HO.out (by omega) (bys_lt a n)
      exact ⟨g, cp, by rw [hv]; rfl, hb, hg, HBl.out⟩
/-- the number that m bytes from place k on are -/
def ws (f : Nat → Nat) : Nat → Nat → Nat
  | _, 0 => 0
  | k, m + 1 => f k + 256 * ws f (k + 1) m
theorem ws_lt (f : Nat → Nat) (h : ∀ i, f i < 256) : ∀ m k, ws f k m < 2 ^ (8 * m)
  | 0, k => by simp [ws]
  | m + 1, k => by
    have h1 := ws_lt f h m (k + 1)
    have h2 := h k
    have h3 : 2 ^ (8 * (m + 1)) = 256 * 2 ^ (8 * m) := by rw [show 8 * (m + 1) = 8 * m + 8 from by omega, Nat.pow_add, Nat.mul_comm]
    unfold ws
    rw [h3]
    omega
theorem ws_top (f : Nat → Nat) : ∀ m k, ws f k (m + 1) = ws f k m + f (k + m) * 2 ^ (8 * m)
  | 0, k => by simp [ws]
  | m + 1, k => by
    have h3 : 2 ^ (8 * (m + 1)) = 256 * 2 ^ (8 * m) := by rw [show 8 * (m + 1) = 8 * m + 8 from by omega, Nat.pow_add, Nat.mul_comm]
    rw [show ws f k (m + 1 + 1) = f k + 256 * ws f (k + 1) (m + 1) from rfl, ws_top f m (k + 1), show ws f k (m + 1) = f k + 256 * ws f (k + 1) m from rfl, show k + 1 + m = k + (m + 1) from by omega, h3, Nat.mul_add, Nat.mul_left_comm]
    omega
theorem ws_wv (f : Nat → Nat) : ∀ n, ws f 0 n = wv f n
  | 0 => rfl
  | n + 1 => by
    rw [ws_top, ws_wv f n, Nat.zero_add]
    rfl
set_option maxHeartbeats 1000000 in
set_option maxRecDepth 100000 in
theorem RWord_any (A : Option Addr) (n cap : Nat) (l : List Nat) (w : World) (hn : 1 ≤ n) (hn8 : n ≤ 8) (hb : Byt w A n cap l) :
    Calls Tryd.prog 26 #[.slice A n cap] w fun e w' => e = .returned (.int .u64 ((wv (fun i => l.getD i 0) n : Nat) : Int)) ∧ w = w' := by
  have hcap : n ≤ cap := hb.2.2.1
  have hcap2 : cap ≤ 9223372036854775807 := by have := hb.2.2.2.1; unfold maxLen at this; omega
  have hlt : ∀ i, l.getD i 0 < 256 := fun i => by
    by_cases q : i < l.length
    · rw [List.getD_eq_getElem?_getD, List.getElem?_eq_getElem q]; exact hb.2.1 _ (List.getElem_mem q)
    · rw [List.getD_eq_getElem?_getD, List.getElem?_eq_none (by omega)]; decide
  obtain ⟨b, off, rfl, hbl, hcell⟩ := hb.2.2.2.2 (by omega)
  obtain ⟨f, hf⟩ : ∃ f : Nat → Nat, f = fun i => l.getD i 0 := ⟨_, rfl⟩
  have hcell' : ∀ j, j < n → w.cell? ⟨b, off + j, none⟩ = some (.int .u8 ((f j : Nat) : Int)) := fun j hj => by rw [hf]; exact hcell j hj
  have hlt' : ∀ i, f i < 256 := fun i => by rw [hf]; exact hlt i
  rw [← hf, ← ws_wv]
  have HC := Lib.hid hcell'
  have HL := Lib.hid hlt'
  clear hb hlt hcell hf hcell' hlt'
  go_enter Tryd.func26, Tryd.ntmps26
  go_wp2
  go_loop [3, 4] (fun v3 v4 => ∃ k m : Nat, k ≤ n ∧ v4 = .int .i64 ((k : Int) - 1) ∧ v3 = .int .u64 m ∧ Hid (m = ws f k (n - k))) (fun _ v4 => (intOf v4 + 1).toNat)
  case atStart => exact ⟨n, 0, Nat.le_refl _, rfl, rfl, Lib.hid (by simp [ws])⟩
  case round =>
    obtain ⟨k, m, hk, rfl, rfl, HM⟩ := hrel
    rcases Nat.eq_zero_or_pos k with hk0 | hk0
    · subst hk0
      go_wp2
      go_ret
      exact ⟨ret_int (by rw [HM.out]; rfl), rfl⟩
    · obtain ⟨j, rfl⟩ : ∃ j, k = j + 1 := ⟨k - 1, by omega⟩
      have hm56 : m < 72057594037927936 := by
        rw [HM.out]
        exact Nat.lt_of_lt_of_le (ws_lt f HL.out (n - (j + 1)) (j + 1)) (Nat.pow_le_pow_right (by decide) (show 8 * (n - (j + 1)) ≤ 56 by omega))
      have hc := HC.out j (by omega)
      have hx := HL.out j
      have HV : Hid (ws f j (n - j) = f j + 256 * m) := Lib.hid (by
        rw [HM.out, show n - j = (n - (j + 1)) + 1 from by omega]; rfl)
      obtain ⟨x, ex⟩ : ∃ b, b = f j := ⟨_, rfl⟩
      rw [← ex] at hc hx HV
      clear ex
      go_wp2
      go_round
      case rel => exact ⟨j, 256 * m + x, by omega, by go_num, by go_num, Lib.hid (by rw [HV.out]; omega)⟩
      case measure => simp [intOf]
end Go.Proofs.YtmbnaejoiglckaaDoor
