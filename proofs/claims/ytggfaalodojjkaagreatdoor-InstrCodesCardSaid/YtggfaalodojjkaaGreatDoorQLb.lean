/-
  The walk of leb.join: the shares of at most ten bytes put together, in 64 bits.
-/
import Derived.Test.YtggfaalodojjkaaGreatDoorQLa
namespace Go.Proofs.YtggfaalodojjkaaGreatDoor
open Go.RowKit
set_option linter.unusedVariables false
theorem ret_three {i j k : IntKind} {a a' b b' c c' : Int} (h : a = a') (h' : b = b') (h'' : c = c') : Ending.returned (.tuple #[.int i a, .int j b, .int k c]) = .returned (.tuple #[.int i a', .int j b', .int k c']) := by rw [h, h', h'']
theorem andNot128 (c : Nat) (h : c < 256) : ∃ m : Nat, m = c % 128 ∧ bits BinOp.andNot IntKind.u8 (c : Int) 128 = (m : Int) := by
  refine ⟨_, rfl, ?_⟩
  have := u8_andNot_nat c 128 h (by omega)
  have e : ((128 : Nat) : Int) = 128 := rfl
  rw [e] at this
  rw [this]
  congr 1
  exact Nat.and_two_pow_sub_one_eq_mod c 7
theorem or_step (x m k : Nat) (hx : x < 2 ^ 64) (hm : m < 128) : bits BinOp.or IntKind.u64 (x : Int) (IntKind.u64.wrap (IntKind.u64.wrap (m : Int) * 2 ^ (7 * k))) = ((x ||| (m * 2 ^ (7 * k)) % 2 ^ 64 : Nat) : Int) := by
  have e1 : IntKind.u64.wrap (m : Int) = (m : Int) := by rw [IntKind.wrap_u64]; omega
  have e2 : IntKind.u64.wrap ((m : Int) * 2 ^ (7 * k)) = ((m * 2 ^ (7 * k) % 2 ^ 64 : Nat) : Int) := by
    rw [IntKind.wrap_u64, Leb.ipow_cast, ← Int.natCast_mul]; rfl
  rw [e1, e2]
  exact u64_or_nat _ _ hx (Nat.mod_lt _ (by omega))
set_option maxHeartbeats 400000 in
theorem join_any (A : Option Addr) (n cap : Nat) (l : List Nat) (w : World) (hb : Byt w A n cap l) (h10 : n ≤ 10) :
    Calls Tryz.prog 148 #[.slice A n cap] w fun e w' => e = .returned (.int .u64 (Leb.jn l)) ∧ w = w' := by
  obtain ⟨hl, hx, hn, hcap, hc⟩ := hb
  unfold maxLen at hcap
  go_enter Tryz.func148, Tryz.ntmps148
  go_wp2
  go_loop [3, 8] (fun v i => ∃ k : Nat, k ≤ n ∧ i = .int .i64 k ∧ ∃ x : Nat, v = .int .u64 x ∧ Hid (x = Leb.jn (l.take k))) (fun _ i => n - (intOf i).toNat)
  case atStart => exact ⟨0, Nat.zero_le _, rfl, 0, rfl, Lib.hid rfl⟩
  case round =>
    obtain ⟨k, hk, rfl, x, rfl, HR⟩ := hrel
    by_cases hlt : k < n
    · obtain ⟨b, off, rfl, _, hcell⟩ := hc (by omega)
      have hck := hcell k hlt
      have hcx := getD_lt l k hx
      have HS := Lib.hid (Leb.join_step l k (by omega))
      clear hcell hc hx hl
      generalize l.getD k 0 = c at *
      obtain ⟨m, hm, hand⟩ := andNot128 c hcx
      have HM := Lib.hid hm
      clear hm
      go_wp2
      go_round
      case rel =>
        have hx64 : x < 2 ^ 64 := by rw [HR.out]; exact Leb.jn_lt _
        exact ⟨k + 1, by omega, by go_num, _, by rw [or_step x m k hx64 (by rw [HM.out]; omega)], Lib.hid (by rw [HR.out, HM.out]; exact HS.out)⟩
      case measure => simp [intOf]; omega
    · go_wp2
      go_ret
      exact ⟨ret_int (by rw [HR.out, List.take_of_length_le (by omega)]), rfl⟩
end Go.Proofs.YtggfaalodojjkaaGreatDoor
