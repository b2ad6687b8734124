/-
  The walks of leb.zeroAbove, leb.signAbove and leb.extent: the sizes that a number of the given bits has in bytes, or why there is none; for every byte slice and every number of bits from 1 to 64.
-/
import Derived.Test.YtggfaalodojjkaaGreatDoorOOj
import Derived.Test.YtggfaalodojjkaaGreatDoorQM
import Derived.WalkKit
import Derived.WalkSpells
import Derived.WalkLawsBesides
import Derived.BigQuiet
import Derived.Deep.QuietTactic
import Derived.Lib.Hide
import Derived.Laws.BitsAllLaws
import Derived.Deep.DeepFit
import Derived.Deep.DeepMust
namespace Go.Proofs.YtggfaalodojjkaaGreatDoor
open Go.RowKit
set_option linter.unusedVariables false
def Byt (w : World) (A : Option Addr) (n cap : Nat) (l : List Nat) : Prop :=
  l.length = n ∧ (∀ x ∈ l, x < 256) ∧ n ≤ cap ∧ cap ≤ maxLen ∧ (0 < n → ∃ b off, A = some ⟨b, off, none⟩ ∧ b < w.heap.size ∧ ∀ j, j < n → w.cell? ⟨b, off + j, none⟩ = some (.int .u8 ((l.getD j 0 : Nat) : Int)))
theorem ret_bool {a b : Bool} (h : a = b) : Ending.returned (.bool a) = .returned (.bool b) := by rw [h]
theorem ret_int {k : IntKind} {a b : Int} (h : a = b) : Ending.returned (.int k a) = .returned (.int k b) := by rw [h]
theorem ret_pair {k j : IntKind} {a b c d : Int} (h : a = b) (h' : c = d) : Ending.returned (.tuple #[.int k a, .int j c]) = .returned (.tuple #[.int k b, .int j d]) := by rw [h, h']
theorem dec_beq (a b : Nat) : ((a : Int) == (b : Int)) = decide (a = b) := by
  rw [Bool.eq_iff_iff]; simp; omega
theorem z_dec (c : Nat) (own : Nat) : ((c : Int) / 2 ^ own == 0) = decide (c < 2 ^ own) := by
  have e : (c : Int) / 2 ^ own = ((c / 2 ^ own : Nat) : Int) := by simp
  rw [e]
  have := dec_beq (c / 2 ^ own) 0
  rw [Int.natCast_zero] at this
  rw [this, Bool.eq_iff_iff]
  simp [Nat.div_eq_zero_iff]
set_option maxHeartbeats 400000 in
theorem zeroAbove_any (c : Nat) (own : Int) (w : World) (hc : c < 256) (h1 : 1 ≤ own) (h2 : own ≤ 7) :
    Calls Tryz.prog 147 #[.int .u8 c, .int .i64 own] w fun e w' => e = .returned (.bool (Leb.zok own.toNat c)) ∧ w = w' := by
  obtain ⟨m, rfl⟩ := Int.eq_ofNat_of_zero_le (show 0 ≤ own by omega)
  go_enter Tryz.func147, Tryz.ntmps147
  go_wp2
  go_ret
  exact ⟨ret_bool (z_dec c m), rfl⟩
theorem and128 (c : Nat) (h : c < 256) : bits BinOp.and IntKind.u8 (c : Int) 128 = ((c &&& 128 : Nat) : Int) := u8_and_nat c 128 h (by omega)
theorem and128_lo (c : Nat) (h : c < 128) : (bits BinOp.and IntKind.u8 (c : Int) 128 == 0) = true := by
  rw [and128 c (by omega)]
  have : c &&& 128 = 0 := by
    have := nat_bit 7 c
    rw [show (2 : Nat) ^ 7 = 128 from rfl] at this
    rw [this]; omega
  rw [this]; rfl
theorem and128_hi (c : Nat) (h : 128 ≤ c) (h2 : c < 256) : (bits BinOp.and IntKind.u8 (c : Int) 128 == 0) = false := by
  rw [and128 c (by omega)]
  have : c &&& 128 = 128 := by
    have := nat_bit 7 c
    rw [show (2 : Nat) ^ 7 = 128 from rfl] at this
    rw [this]; omega
  rw [this]; rfl
theorem sok_cases : ∀ (c : Fin 128) (o : Fin 8), 1 ≤ o.val → ((IntKind.i8.wrap ((c.val : Int) * 2) / 2 ^ o.val == 0 || IntKind.i8.wrap ((c.val : Int) * 2) / 2 ^ o.val == -1) = Leb.sok o.val c.val) := by
  decide +kernel
theorem sok_hi (c o : Nat) (h : 128 ≤ c) : Leb.sok o c = false := by simp [Leb.sok]; omega
theorem sok_lo (c o : Nat) (h : c < 128) (h1 : 1 ≤ o) (h7 : o ≤ 7) : (IntKind.i8.wrap ((c : Int) * 2) / 2 ^ o == 0 || IntKind.i8.wrap ((c : Int) * 2) / 2 ^ o == -1) = Leb.sok o c :=
  sok_cases ⟨c, h⟩ ⟨o, by omega⟩ h1
theorem sok_one (c o : Nat) (h : c < 128) (h1 : 1 ≤ o) (h7 : o ≤ 7) (h0 : IntKind.i8.wrap ((c : Int) * 2) / 2 ^ o = 0) : true = Leb.sok o c := by
  rw [← sok_lo c o h h1 h7, h0]; rfl
set_option maxHeartbeats 400000 in
theorem signAbove_any (c : Nat) (own : Int) (w : World) (hc : c < 256) (h1 : 1 ≤ own) (h2 : own ≤ 7) :
    Calls Tryz.prog 149 #[.int .u8 c, .int .i64 own] w fun e w' => e = .returned (.bool (Leb.sok own.toNat c)) ∧ w = w' := by
  obtain ⟨m, rfl⟩ := Int.eq_ofNat_of_zero_le (show 0 ≤ own by omega)
  rw [Int.toNat_natCast]
  by_cases h : c < 128
  · have ha := and128_lo c h
    have H := Lib.hid (sok_lo c m h (by omega) (by omega))
    have H1 := Lib.hid (sok_one c m h (by omega) (by omega))
    go_enter Tryz.func149, Tryz.ntmps149
    go_wp2
    · go_ret
      exact ⟨ret_bool (H1.out (by assumption)), rfl⟩
    · go_ret
      exact ⟨ret_bool H.out, rfl⟩
  · have ha := and128_hi c (by omega) hc
    have H := Lib.hid (sok_hi c m (by omega))
    go_enter Tryz.func149, Tryz.ntmps149
    go_wp2
    go_ret
    exact ⟨ret_bool H.out.symm, rfl⟩
theorem drop_cons (l : List Nat) (k : Nat) (h : k < l.length) : l.drop k = l.getD k 0 :: l.drop (k + 1) := by
  rw [List.drop_eq_getElem_cons h, List.getD_eq_getElem?_getD, List.getElem?_eq_getElem h]; rfl
theorem getD_lt (l : List Nat) (k : Nat) (h : ∀ x ∈ l, x < 256) : l.getD k 0 < 256 := by
  rw [List.getD_eq_getElem?_getD]
  by_cases hk : k < l.length
  · rw [List.getElem?_eq_getElem hk]; exact h _ (List.getElem_mem hk)
  · rw [List.getElem?_eq_none (by omega)]; simp

set_option maxHeartbeats 400000 in
theorem extent_z (A : Option Addr) (n cap : Nat) (l : List Nat) (bits : Int) (w : World) (hb : Byt w A n cap l) (h1 : 1 ≤ bits) (h2 : bits ≤ 64) :
    Calls Tryz.prog 146 #[.slice A n cap, .int .i64 bits, .func (.func 147) #[] #[]] w fun e w' =>
      e = .returned (.tuple #[.int .i64 (Leb.ext (Leb.last bits) (Leb.zok (Leb.own bits)) l 0).1, .int .i64 (Leb.ext (Leb.last bits) (Leb.zok (Leb.own bits)) l 0).2]) ∧ w = w' := by
  obtain ⟨hl, hx, hn, hcap, hc⟩ := hb
  unfold maxLen at hcap
  obtain ⟨L, hL⟩ : ∃ L, L = Leb.last bits := ⟨_, rfl⟩
  obtain ⟨o, ho⟩ : ∃ o, o = Leb.own bits := ⟨_, rfl⟩
  rw [← hL, ← ho]
  have hb1 : (bits - 1) / 7 = (L : Int) := by unfold Leb.last at hL; omega
  have hb2 : bits = 7 * (L : Int) + (o : Int) ∧ 1 ≤ o ∧ o ≤ 7 ∧ L ≤ 9 := by unfold Leb.own Leb.last at *; omega
  obtain ⟨hb2, ho1, ho7, hL9⟩ := hb2
  subst hb2
  clear hL ho
  go_enter Tryz.func146, Tryz.ntmps146
  go_wp2
  go_loop [22] (fun i => ∃ k : Nat, k ≤ n ∧ i = .int .i64 k ∧ Hid (Leb.ext L (Leb.zok o) l 0 = Leb.ext L (Leb.zok o) (l.drop k) k)) (fun i => n - (intOf i).toNat)
  case atStart => exact ⟨0, Nat.zero_le _, rfl, Lib.hid rfl⟩
  case round =>
    obtain ⟨k, hk, rfl, HR⟩ := hrel
    by_cases hlt : k < n
    · obtain ⟨b, off, rfl, _, hcell⟩ := hc (by omega)
      have hck := hcell k hlt
      have hd := drop_cons l k (by omega)
      have hcx := getD_lt l k hx
      generalize l.getD k 0 = c at *
      have HR2 : Hid (Leb.ext L (Leb.zok o) l 0 = Leb.ext L (Leb.zok o) (c :: l.drop (k + 1)) k) := Lib.hid (by rw [HR.out, hd])
      clear hd hcell HR hc hl hx
      by_cases hkL : k = L
      · subst hkL
        have hkk : ((k : Int) == (k : Int)) = true := by simp
        cases hz : Leb.zok o c with
        | true =>
          have hlo : c < 128 := by
            have := Leb.pow_le ho7; simp [Leb.zok] at hz; omega
          have ha := and128_lo c hlo
          have HZ : Hid (Leb.ext k (Leb.zok o) (c :: l.drop (k + 1)) k = (k + 1, 0)) := Lib.hid (by rw [Leb.ext, if_neg (by simp [hz]), if_pos hlo])
          have hz' := Lib.hid hz
          clear hz
          go_wp2_with (go_at_call 147; refine (zeroAbove_any c _ _ hcx (by omega) (by omega)).mono ?_; rw [show (7 * (k : Int) + (o : Int) - 7 * (k : Int)).toNat = o by omega, hz'.out]; rintro e w' ⟨rfl, rfl⟩)
          go_ret2
          exact ⟨ret_pair (by rw [HR2.out, HZ.out]; rfl) (by rw [HR2.out, HZ.out]; rfl), rfl⟩
        | false =>
          have HZ : Hid (Leb.ext k (Leb.zok o) (c :: l.drop (k + 1)) k = (0, 4)) := Lib.hid (by rw [Leb.ext, if_pos ⟨rfl, hz⟩])
          have hz' := Lib.hid hz
          clear hz
          go_wp2_with (go_at_call 147; refine (zeroAbove_any c _ _ hcx (by omega) (by omega)).mono ?_; rw [show (7 * (k : Int) + (o : Int) - 7 * (k : Int)).toNat = o by omega, hz'.out]; rintro e w' ⟨rfl, rfl⟩)
          go_ret2
          exact ⟨ret_pair (by rw [HR2.out, HZ.out]; rfl) (by rw [HR2.out, HZ.out]; rfl), rfl⟩
      · have hkk : ((k : Int) == (L : Int)) = false := by rw [dec_beq]; simp [hkL]
        by_cases hlo : c < 128
        · have ha := and128_lo c hlo
          have HZ : Hid (Leb.ext L (Leb.zok o) (c :: l.drop (k + 1)) k = (k + 1, 0)) := Lib.hid (by rw [Leb.ext, if_neg (by simp [hkL]), if_pos hlo])
          go_wp2
          go_ret2
          exact ⟨ret_pair (by rw [HR2.out, HZ.out]; rfl) (by rw [HR2.out, HZ.out]; rfl), rfl⟩
        · have ha := and128_hi c (by omega) hcx
          have HZ : Hid (Leb.ext L (Leb.zok o) (c :: l.drop (k + 1)) k = Leb.ext L (Leb.zok o) (l.drop (k + 1)) (k + 1)) := Lib.hid (by rw [Leb.ext, if_neg (by simp [hkL]), if_neg hlo])
          go_wp2
          go_round
          case rel => exact ⟨k + 1, by omega, by go_num, Lib.hid (by rw [HR2.out, HZ.out])⟩
          case measure => simp [intOf]; omega
    · have HZ : Hid (Leb.ext L (Leb.zok o) l 0 = (0, 3)) := Lib.hid (by
        rw [HR.out, List.drop_eq_nil_of_le (by omega)]; rfl)
      go_wp2
      go_ret2
      exact ⟨ret_pair (by rw [HZ.out]; rfl) (by rw [HZ.out]; rfl), rfl⟩

set_option maxHeartbeats 400000 in
theorem extent_s (A : Option Addr) (n cap : Nat) (l : List Nat) (bits : Int) (w : World) (hb : Byt w A n cap l) (h1 : 1 ≤ bits) (h2 : bits ≤ 64) :
    Calls Tryz.prog 146 #[.slice A n cap, .int .i64 bits, .func (.func 149) #[] #[]] w fun e w' =>
      e = .returned (.tuple #[.int .i64 (Leb.ext (Leb.last bits) (Leb.sok (Leb.own bits)) l 0).1, .int .i64 (Leb.ext (Leb.last bits) (Leb.sok (Leb.own bits)) l 0).2]) ∧ w = w' := by
  obtain ⟨hl, hx, hn, hcap, hc⟩ := hb
  unfold maxLen at hcap
  obtain ⟨L, hL⟩ : ∃ L, L = Leb.last bits := ⟨_, rfl⟩
  obtain ⟨o, ho⟩ : ∃ o, o = Leb.own bits := ⟨_, rfl⟩
  rw [← hL, ← ho]
  have hb1 : (bits - 1) / 7 = (L : Int) := by unfold Leb.last at hL; omega
  have hb2 : bits = 7 * (L : Int) + (o : Int) ∧ 1 ≤ o ∧ o ≤ 7 ∧ L ≤ 9 := by unfold Leb.own Leb.last at *; omega
  obtain ⟨hb2, ho1, ho7, hL9⟩ := hb2
  subst hb2
  clear hL ho
  go_enter Tryz.func146, Tryz.ntmps146
  go_wp2
  go_loop [22] (fun i => ∃ k : Nat, k ≤ n ∧ i = .int .i64 k ∧ Hid (Leb.ext L (Leb.sok o) l 0 = Leb.ext L (Leb.sok o) (l.drop k) k)) (fun i => n - (intOf i).toNat)
  case atStart => exact ⟨0, Nat.zero_le _, rfl, Lib.hid rfl⟩
  case round =>
    obtain ⟨k, hk, rfl, HR⟩ := hrel
    by_cases hlt : k < n
    · obtain ⟨b, off, rfl, _, hcell⟩ := hc (by omega)
      have hck := hcell k hlt
      have hd := drop_cons l k (by omega)
      have hcx := getD_lt l k hx
      generalize l.getD k 0 = c at *
      have HR2 : Hid (Leb.ext L (Leb.sok o) l 0 = Leb.ext L (Leb.sok o) (c :: l.drop (k + 1)) k) := Lib.hid (by rw [HR.out, hd])
      clear hd hcell HR hc hl hx
      by_cases hkL : k = L
      · subst hkL
        have hkk : ((k : Int) == (k : Int)) = true := by simp
        cases hz : Leb.sok o c with
        | true =>
          have hlo : c < 128 := by
            simp [Leb.sok] at hz; exact hz.1
          have ha := and128_lo c hlo
          have HZ : Hid (Leb.ext k (Leb.sok o) (c :: l.drop (k + 1)) k = (k + 1, 0)) := Lib.hid (by rw [Leb.ext, if_neg (by simp [hz]), if_pos hlo])
          have hz' := Lib.hid hz
          clear hz
          go_wp2_with (go_at_call 149; refine (signAbove_any c _ _ hcx (by omega) (by omega)).mono ?_; rw [show (7 * (k : Int) + (o : Int) - 7 * (k : Int)).toNat = o by omega, hz'.out]; rintro e w' ⟨rfl, rfl⟩)
          go_ret2
          exact ⟨ret_pair (by rw [HR2.out, HZ.out]; rfl) (by rw [HR2.out, HZ.out]; rfl), rfl⟩
        | false =>
          have HZ : Hid (Leb.ext k (Leb.sok o) (c :: l.drop (k + 1)) k = (0, 4)) := Lib.hid (by rw [Leb.ext, if_pos ⟨rfl, hz⟩])
          have hz' := Lib.hid hz
          clear hz
          go_wp2_with (go_at_call 149; refine (signAbove_any c _ _ hcx (by omega) (by omega)).mono ?_; rw [show (7 * (k : Int) + (o : Int) - 7 * (k : Int)).toNat = o by omega, hz'.out]; rintro e w' ⟨rfl, rfl⟩)
          go_ret2
          exact ⟨ret_pair (by rw [HR2.out, HZ.out]; rfl) (by rw [HR2.out, HZ.out]; rfl), rfl⟩
      · have hkk : ((k : Int) == (L : Int)) = false := by rw [dec_beq]; simp [hkL]
        by_cases hlo : c < 128
        · have ha := and128_lo c hlo
          have HZ : Hid (Leb.ext L (Leb.sok o) (c :: l.drop (k + 1)) k = (k + 1, 0)) := Lib.hid (by rw [Leb.ext, if_neg (by simp [hkL]), if_pos hlo])
          go_wp2
          go_ret2
          exact ⟨ret_pair (by rw [HR2.out, HZ.out]; rfl) (by rw [HR2.out, HZ.out]; rfl), rfl⟩
        · have ha := and128_hi c (by omega) hcx
          have HZ : Hid (Leb.ext L (Leb.sok o) (c :: l.drop (k + 1)) k = Leb.ext L (Leb.sok o) (l.drop (k + 1)) (k + 1)) := Lib.hid (by rw [Leb.ext, if_neg (by simp [hkL]), if_neg hlo])
          go_wp2
          go_round
          case rel => exact ⟨k + 1, by omega, by go_num, Lib.hid (by rw [HR2.out, HZ.out])⟩
          case measure => simp [intOf]; omega
    · have HZ : Hid (Leb.ext L (Leb.sok o) l 0 = (0, 3)) := Lib.hid (by
        rw [HR.out, List.drop_eq_nil_of_le (by omega)]; rfl)
      go_wp2
      go_ret2
      exact ⟨ret_pair (by rw [HZ.out]; rfl) (by rw [HZ.out]; rfl), rfl⟩
end Go.Proofs.YtggfaalodojjkaaGreatDoor
