/-
  The answer of the document (Unsigned) is the one that leb.Unsigned gives, for every byte slice of at most 1000 bytes and every number of bits.
-/
import Derived.Test.YtggfaalodojjkaaGreatDoorQLe
namespace Go.Proofs.YtggfaalodojjkaaGreatDoor
open Go.RowKit
set_option linter.unusedVariables false
theorem read_bad (A : Option Addr) (n cap : Nat) (bits : Int) (w : World) (h : Leb.bad bits) :
    Calls Tryz.prog 75 #[.slice A n cap, .int .i64 bits] w fun e w' => e = .returned (.tuple #[.slice none 0 0, .int .i64 0, .int .i64 1]) ∧ w = w' := by
  by_cases h1 : bits < 1
  · go_enter Tryz.func75, Tryz.ntmps75
    go_wp2
    go_ret3
    exact ⟨rfl, rfl⟩
  · have h2 : 64 < bits := by unfold Leb.bad at h; omega
    clear h
    go_enter Tryz.func75, Tryz.ntmps75
    go_wp2
    go_ret3
    exact ⟨rfl, rfl⟩
def OkPost (B : Nat) (l : List Nat) (s : Nat) (w : World) (e : Ending) (w' : World) : Prop :=
  ∃ (g cp : Nat), e = .returned (.tuple #[.slice (some ⟨g, 0, none⟩) (7 * s : Nat) cp, .int .i64 s, .int .i64 0]) ∧ 7 * s ≤ cp ∧ Hid (cp ≤ maxLen) ∧ (∀ j, j < 7 * s → w'.cell? ⟨g, j, none⟩ = some (.bool (Leb.bit (l.take s) j))) ∧ Below B w w'
theorem bit_take (l : List Nat) (s j : Nat) (h : j < 7 * s) : Leb.bit (l.take s) j = Leb.bit l j := by
  unfold Leb.bit
  rw [List.getD_eq_getElem?_getD, List.getD_eq_getElem?_getD, List.getElem?_take_of_lt (by omega)]
theorem read_ok (A : Option Addr) (n cap : Nat) (l : List Nat) (bits : Int) (w : World) (s : Nat) (hb : Byt w A n cap l) (h1 : 1 ≤ bits) (h2 : bits ≤ 64) (hn1 : n ≤ 1000) (hr : Leb.rdE bits.toNat l 0 = (s, 0)) (hs : 1 ≤ s) :
    Calls Tryz.prog 75 #[.slice A n cap, .int .i64 bits] w (OkPost w.heap.size l s w) := by
  refine (read_any A n cap l bits w hb h1 h2 hn1).mono fun e w' h => ?_
  obtain ⟨v, he, hown, hbel⟩ := h
  rw [hr] at he hown
  have hown := hown rfl
  simp only at hown he
  rcases hown.2 with ⟨_, h0⟩ | ⟨g, cp, cur, rfl, hB, hg, hn, hm, hcs, htk⟩
  · omega
  · refine ⟨g, cp, he, hn, Lib.hid hm, fun j hj => ?_, hbel⟩
    rw [cell_of_row w' g j cur 4 (0, 0) hg]
    have e1 : cur[j]? = (cur.toList.take (7 * s * 1))[j]? := by
      rw [List.getElem?_take_of_lt (by omega), Array.getElem?_toList]
    rw [e1, htk, bit_take l s j hj]
    unfold BL
    rw [List.getElem?_map, List.getElem?_range hj]; rfl
theorem read_no (A : Option Addr) (n cap : Nat) (l : List Nat) (bits : Int) (w : World) (e : Nat) (hb : Byt w A n cap l) (h1 : 1 ≤ bits) (h2 : bits ≤ 64) (hn1 : n ≤ 1000) (hr : Leb.rdE bits.toNat l 0 = (0, e)) :
    Calls Tryz.prog 75 #[.slice A n cap, .int .i64 bits] w fun x w' => ∃ v, x = .returned (.tuple #[v, .int .i64 0, .int .i64 e]) ∧ Below w.heap.size w w' := by
  refine (read_any A n cap l bits w hb h1 h2 hn1).mono fun x w' h => ?_
  obtain ⟨v, he, _, hbel⟩ := h
  rw [hr] at he
  exact ⟨v, he, hbel⟩
/-- the state of the document's loop behind i bits: all bits from n on are 0 so far -/
def UA (X n i : Nat) : Prop := ∀ j, n ≤ j → j < i → X / 2 ^ j % 2 = 0
theorem UA_end (X n : Nat) : ∀ k, UA X n k → X < 2 ^ k → X < 2 ^ n := by
  intro k
  induction k with
  | zero => intro _ h; have := Nat.two_pow_pos n; simp at h; omega
  | succ k ih =>
    intro hu h
    by_cases hk : k + 1 ≤ n
    · exact Nat.lt_of_lt_of_le h (Leb.pow_le hk)
    · refine ih (fun j h1 h2 => hu j h1 (by omega)) ?_
      have := hu k (by omega) (by omega)
      have e : 2 ^ (k + 1) = 2 ^ k * 2 := rfl
      have h2 : X / 2 ^ k < 2 := Nat.div_lt_of_lt_mul (by rw [← e]; exact h)
      have h0 : X / 2 ^ k = 0 := by clear e h ih hu; generalize X / 2 ^ k = q at *; omega
      exact (Nat.div_eq_zero_iff.1 h0).resolve_left (by have := Nat.two_pow_pos k; omega)
theorem UA_step (X n i : Nat) (h : UA X n i) (hb : X / 2 ^ i % 2 = 0) : UA X n (i + 1) := fun j h1 h2 => by
  by_cases e : j = i
  · subst e; exact hb
  · exact h j h1 (by omega)
theorem UA_step' (X n i : Nat) (h : UA X n i) (hb : i < n) : UA X n (i + 1) := fun j h1 h2 => h j h1 (by omega)
theorem bit_big (X i n : Nat) (hb : X / 2 ^ i % 2 = 1) (h : n ≤ i) : ¬ X < 2 ^ n := by
  intro hlt
  have := Leb.pow_le h
  rw [Nat.div_eq_of_lt (by omega)] at hb
  simp at hb
theorem mod_step (X i : Nat) : X % 2 ^ (i + 1) = X % 2 ^ i + 2 ^ i * (X / 2 ^ i % 2) := Nat.mod_pow_succ
theorem sum_u64 (x y X i : Nat) (hi : i < 64) (hx : x = X % 2 ^ i) (hy : y = 2 ^ i % 2 ^ 64) (hb : X / 2 ^ i % 2 = 1) : IntKind.u64.wrap ((x : Int) + (y : Int)) = ((X % 2 ^ (i + 1) : Nat) : Int) := by
  have hlt : 2 ^ i < 2 ^ 64 := Nat.pow_lt_pow_right (by omega) hi
  rw [Nat.mod_eq_of_lt hlt] at hy
  have h := mod_step X i
  rw [hb, ← hx, Nat.mul_one, ← hy] at h
  have h2 : X % 2 ^ (i + 1) < 2 ^ (i + 1) := Nat.mod_lt _ (Nat.two_pow_pos _)
  have h3 := Leb.pow_le (a := i + 1) (b := 64) (by omega)
  rw [IntKind.wrap_u64]
  omega
theorem twice_u64 (y i : Nat) (hy : y = 2 ^ i % 2 ^ 64) : IntKind.u64.wrap (2 * (y : Int)) = ((2 ^ (i + 1) % 2 ^ 64 : Nat) : Int) := by
  have e : 2 ^ (i + 1) = 2 * 2 ^ i := by rw [Nat.pow_succ, Nat.mul_comm]
  rw [IntKind.wrap_u64, e]
  omega
set_option maxHeartbeats 400000 in
set_option maxRecDepth 100000 in
theorem refU_any (A : Option Addr) (n cap : Nat) (l : List Nat) (bits : Int) (w : World) (hb : Byt w A n cap l) (hn1 : n ≤ 1000) :
    Calls Tryz.prog 74 #[.slice A n cap, .int .i64 bits] w fun e w' =>
      e = .returned (.tuple #[.int .u64 (Leb.uns l bits).1, .int .i64 (Leb.uns l bits).2.1, .int .i64 (Leb.uns l bits).2.2]) ∧ Below w.heap.size w w' := by
  by_cases hbad : Leb.bad bits
  · rw [uns_bad l bits hbad]
    have HB := Lib.hid hbad
    clear hbad
    go_enter Tryz.func74, Tryz.ntmps74
    go_wp2_with (go_at_call 75; refine (read_bad _ _ _ _ _ HB.out).mono ?_; rintro e w' ⟨rfl, rfl⟩)
    go_ret3
    exact ⟨rfl, Below.refl _ _⟩
  · have hbd : 1 ≤ bits ∧ bits ≤ 64 := by unfold Leb.bad at hbad; omega
    obtain ⟨h1, h64⟩ := hbd
    have hU : Hid (Leb.uns l bits = _) := Lib.hid (by unfold Leb.uns; rw [if_neg hbad])
    have hsz := Leb.rdE_size bits.toNat l 0
    have hbd0 := Leb.rdE_bad bits.toNat l 0
    obtain ⟨⟨s, e⟩, hr⟩ : ∃ r, r = Leb.rdE bits.toNat l 0 := ⟨_, rfl⟩
    rw [← hr] at hU hsz hbd0
    simp only at hU hsz hbd0
    have hlen : l.length = n := hb.1
    by_cases he : e = 0
    · subst he
      have hs := hsz rfl
      have hsn : 1 ≤ s ∧ s ≤ 1000 := by omega
      obtain ⟨hs1, hs2⟩ := hsn
      have HC := Lib.hid (read_ok A n cap l bits w s hb h1 h64 hn1 hr.symm hs1)
      obtain ⟨X, hX⟩ : ∃ X, X = Leb.val (l.take s) := ⟨_, rfl⟩
      have hbt : Hid (∀ j, Leb.bit (l.take s) j = decide (X / 2 ^ j % 2 = 1)) := Lib.hid (fun j => by rw [Leb.bit_val, hX])
      have hXlt : Hid (X < 2 ^ (7 * s)) := Lib.hid (by
        have := Leb.val_lt (l.take s)
        rw [List.length_take, Nat.min_eq_left (by omega)] at this
        rw [hX]; exact this)
      have hU2 : Hid (Leb.uns l bits = if X < 2 ^ bits.toNat then (X, s, 0) else (0, 0, 4)) := Lib.hid (by rw [hU.out, if_pos rfl, hX])
      clear hsz hbd0 hs hlen hr hbad hb hX hU
      go_enter Tryz.func74, Tryz.ntmps74
      go_wp2_with (go_at_call 75; refine HC.out.mono ?_; rintro e w' ⟨g, cp, rfl, hcp, hmax, hcell, hbel⟩; have hbe := Lib.hid hbel; have hce := Lib.hid hcell; clear hbel hcell)
      go_loop [10, 11, 12] (fun v y i => ∃ k a b : Nat, k ≤ 7 * s ∧ i = .int .i64 k ∧ v = .int .u64 a ∧ y = .int .u64 b ∧ Hid (a = X % 2 ^ min k bits.toNat) ∧ Hid (b = 2 ^ k % 2 ^ 64) ∧ Hid (UA X bits.toNat k)) (fun _ _ i => 7 * s - (intOf i).toNat)
      case atStart => exact ⟨0, 0, 1, by omega, rfl, rfl, rfl, Lib.hid (by simp [Nat.mod_one]), Lib.hid rfl, Lib.hid (fun j _ h => by omega)⟩
      case round =>
        obtain ⟨k, a, b, hk, rfl, rfl, rfl, Ha, Hb, Hu⟩ := hrel
        by_cases hlt : k < 7 * s
        · have hck := hce.out k hlt
          have hbk := hbt.out k
          cases hv : Leb.bit (l.take s) k with
          | true =>
            rw [hv] at hck hbk
            have hb1 : X / 2 ^ k % 2 = 1 := by simpa using hbk.symm
            clear hbk hv
            by_cases hkn : bits ≤ (k : Int)
            · have HZ : Hid (Leb.uns l bits = (0, 0, 4)) := Lib.hid (by rw [hU2.out, if_neg (bit_big X k _ hb1 (by omega))])
              clear hb1
              go_wp2
              go_ret3
              exact ⟨by rw [HZ.out]; rfl, hbe.out⟩
            · have HS := Lib.hid (sum_u64 a b X k (by omega) (by rw [Ha.out, Nat.min_eq_left (by omega)]) Hb.out hb1)
              have HT := Lib.hid (twice_u64 b k Hb.out)
              clear hb1
              go_wp2
              go_round
              case rel => exact ⟨k + 1, _, _, by omega, by go_num, by rw [HS.out], by rw [HT.out], Lib.hid (by rw [Nat.min_eq_left (by omega)]), Lib.hid rfl, Lib.hid (UA_step' _ _ _ Hu.out (by omega))⟩
              case measure => simp [intOf]; omega
          | false =>
            rw [hv] at hck hbk
            have hb0 : X / 2 ^ k % 2 = 0 := by have := of_decide_eq_false hbk.symm; omega
            clear hbk hv
            have HT := Lib.hid (twice_u64 b k Hb.out)
            have HA : Hid (a = X % 2 ^ min (k + 1) bits.toNat) := Lib.hid (by
              rw [Ha.out]
              by_cases hkn : bits ≤ (k : Int)
              · rw [Nat.min_eq_right (by omega), Nat.min_eq_right (by omega)]
              · rw [Nat.min_eq_left (by omega), Nat.min_eq_left (by omega), mod_step, hb0]; rfl)
            have HU := Lib.hid (UA_step _ _ _ Hu.out hb0)
            clear hb0
            by_cases hkn : bits ≤ (k : Int)
            all_goals
              go_wp2
              go_round
              case rel => exact ⟨k + 1, _, _, by omega, by go_num, rfl, by rw [HT.out], HA, Lib.hid rfl, HU⟩
              case measure => simp [intOf]; omega
        · obtain rfl : k = 7 * s := by omega
          have hXn := UA_end _ _ _ Hu.out hXlt.out
          have HZ : Hid (Leb.uns l bits = (X, s, 0)) := Lib.hid (by rw [hU2.out, if_pos hXn])
          have HA : Hid (a = X) := Lib.hid (by
            rw [Ha.out]
            by_cases hm : 7 * s ≤ bits.toNat
            · rw [Nat.min_eq_left hm, Nat.mod_eq_of_lt hXlt.out]
            · rw [Nat.min_eq_right (by omega), Nat.mod_eq_of_lt hXn])
          clear hXn
          go_wp2
          go_ret3
          exact ⟨by rw [HZ.out, HA.out]; rfl, hbe.out⟩
    · obtain rfl : s = 0 := hbd0 he
      have hU2 : Hid (Leb.uns l bits = (0, 0, e)) := Lib.hid (by rw [hU.out, if_neg he])
      have hee : (((e : Nat) : Int) != 0) = true := by simp [he]
      have HC := Lib.hid (read_no A n cap l bits w e hb h1 h64 hn1 hr.symm)
      clear hsz hbd0 he hr hbad hb hU
      go_enter Tryz.func74, Tryz.ntmps74
      go_wp2_with (go_at_call 75; refine HC.out.mono ?_; rintro e w' ⟨v, rfl, hbel⟩; have hbe := Lib.hid hbel; clear hbel)
      go_ret3
      exact ⟨by rw [hU2.out]; rfl, hbe.out⟩
end Go.Proofs.YtggfaalodojjkaaGreatDoor
